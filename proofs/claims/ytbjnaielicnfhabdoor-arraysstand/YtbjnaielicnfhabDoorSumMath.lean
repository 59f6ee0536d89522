/- Seals of bytes, as plain mathematics: a seal's two numbers, their bytes, and that bytes of which one is another one have another seal. -/
import Derived.WalkKit
namespace Go.Proofs.YtbjnaielicnfhabDoor

/-- The byte of a number below 256. -/
def byt (n : Int) : UInt8 := UInt8.ofNat n.toNat
theorem byt_nat (n : Int) (h0 : 0 ≤ n) (h1 : n < 256) : ((byt n).toNat : Int) = n := by
  unfold byt
  rw [UInt8.toNat_ofNat']
  omega
theorem byt_of (c : UInt8) : byt (c.toNat : Int) = c := by
  unfold byt
  simp
/-- A number's two bytes, the higher one first. -/
def be2 (n : Int) : List UInt8 := [byt (n / 256), byt (n % 256)]
/-- A text of these bytes. -/
def str (l : List UInt8) : ByteArray := ⟨l.toArray⟩
theorem str_app (a b : List UInt8) : str a ++ str b = str (a ++ b) := ByteArray.mk_append_mk a b
theorem str_size (l : List UInt8) : (str l).size = l.length := by simp [str, ByteArray.size]
theorem str_list (l : List UInt8) : (str l).data.toList = l := by simp [str]
theorem str_inj {a b : List UInt8} (h : str a = str b) : a = b := by
  have := congrArg (fun x : ByteArray => x.data.toList) h
  simpa [str] using this
theorem ret_str {a b : ByteArray} (h : a = b) : Ending.returned (.string a) = .returned (.string b) := by rw [h]
theorem ret_int {k : IntKind} {a b : Int} (h : a = b) : Ending.returned (.int k a) = .returned (.int k b) := by rw [h]
theorem ret_bool {a b : Bool} (h : a = b) : Ending.returned (.bool a) = .returned (.bool b) := by rw [h]

/-- One byte more: the first number, the second number. -/
def step (p : Int × Int) (c : UInt8) : Int × Int := ((p.1 + c.toNat) % 65521, (p.2 + (p.1 + c.toNat) % 65521) % 65521)
def adl (l : List UInt8) : Int × Int := l.foldl step (1, 0)
/-- The seal. -/
def sealOf (l : List UInt8) : List UInt8 := be2 (adl l).2 ++ be2 (adl l).1
theorem adl_snoc (l : List UInt8) (c : UInt8) : adl (l ++ [c]) = step (adl l) c := by simp [adl]
theorem adl_bd (l : List UInt8) : (0 ≤ (adl l).1 ∧ (adl l).1 < 65521) ∧ 0 ≤ (adl l).2 ∧ (adl l).2 < 65521 := by
  rcases List.eq_nil_or_concat l with rfl | ⟨l', c, rfl⟩
  · simp [adl]
  · rw [List.concat_eq_append, adl_snoc]
    simp only [step]
    omega
theorem take_snoc (s : ByteArray) (k : Nat) (h : k < s.size) : s.data.toList.take (k + 1) = s.data.toList.take k ++ [s[k]] := by
  rw [List.take_succ_eq_append_getElem (by simpa using h)]; rfl
theorem sealOf_length (l : List UInt8) : (sealOf l).length = 4 := rfl

theorem be2_inj (a b : Int) (a0 : 0 ≤ a) (a1 : a < 65521) (b0 : 0 ≤ b) (b1 : b < 65521) (h : be2 a = be2 b) : a = b := by
  simp only [be2, List.cons.injEq, and_true] at h
  have h1 := byt_nat (a / 256) (by omega) (by omega)
  have h2 := byt_nat (b / 256) (by omega) (by omega)
  have h3 := byt_nat (a % 256) (by omega) (by omega)
  have h4 := byt_nat (b % 256) (by omega) (by omega)
  rw [h.1] at h1
  rw [h.2] at h3
  omega
theorem fold_first (l : List UInt8) : ∃ t : Int, ∀ q : Int × Int, (l.foldl step q).1 % 65521 = (q.1 + t) % 65521 := by
  induction l with
  | nil => exact ⟨0, fun q => by simp⟩
  | cons c l ih =>
    obtain ⟨t, h2⟩ := ih
    refine ⟨c.toNat + t, fun q => ?_⟩
    rw [List.foldl_cons, h2]; simp only [step]; omega
/-- Bytes of which one is another one have another first number. -/
theorem adl_other (a b : List UInt8) (c d : UInt8) (h : c ≠ d) : (adl (a ++ c :: b)).1 ≠ (adl (a ++ d :: b)).1 := by
  intro e
  obtain ⟨t, h2⟩ := fold_first b
  have k1 := h2 (step (adl a) c)
  have k2 := h2 (step (adl a) d)
  have hc := c.toNat_lt
  have hd := d.toNat_lt
  have hne : c.toNat ≠ d.toNat := fun x => h (UInt8.toNat_inj.1 x)
  have f1 : adl (a ++ c :: b) = b.foldl step (step (adl a) c) := by simp [adl]
  have f2 : adl (a ++ d :: b) = b.foldl step (step (adl a) d) := by simp [adl]
  rw [← f1] at k1
  rw [← f2] at k2
  rw [e] at k1
  simp only [step] at k1 k2
  omega
theorem sealOf_other (l : List UInt8) (k : Nat) (hk : k < l.length) (d : UInt8) (h : d ≠ l[k]) : sealOf (l.set k d) ≠ sealOf l := by
  intro e
  have e1 := (List.append_inj e (by simp [be2])).2
  have b1 := (adl_bd (l.set k d)).1
  have b2 := (adl_bd l).1
  have e2 := be2_inj _ _ b1.1 b1.2 b2.1 b2.2 e1
  rw [List.set_eq_take_append_cons_drop, if_pos hk] at e2
  have hl : l = l.take k ++ l[k] :: l.drop (k + 1) := by rw [List.getElem_cons_drop, List.take_append_drop]
  have := adl_other (l.take k) (l.drop (k + 1)) d l[k] h
  rw [← hl] at this
  exact this e2

/-- A number from 0 to many - 1. -/
def pick (n many : Int) : Int := (if n < 0 then -(n + 1) else n) % many
theorem pick_bd (n many : Int) (h : 0 < many) : 0 ≤ pick n many ∧ pick n many < many := ⟨Int.emod_nonneg _ (by omega), Int.emod_lt_of_pos _ h⟩
end Go.Proofs.YtbjnaielicnfhabDoor
