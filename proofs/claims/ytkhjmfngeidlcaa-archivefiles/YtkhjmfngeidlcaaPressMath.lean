/- Packing as plain mathematics: the longest piece that stands further back, packed bytes, unpacked bytes. -/
import Derived.Test.YtkhjmfngeidlcaaLow
namespace Go.Proofs.Ytkhjmfngeidlcaa

/-- How many bytes from place k on are those from place i on, up to so many more. -/
def alikeGo (l : List UInt8) (k i : Nat) : Nat → Nat → Nat
  | 0, n => n
  | f + 1, n => if i + n < l.length ∧ bat l (k + n) = bat l (i + n) then alikeGo l k i f (n + 1) else n
def alike (l : List UInt8) (k i : Nat) : Nat := alikeGo l k i 131 0
theorem alikeGo_spec (l : List UInt8) (k i : Nat) : ∀ f n, i + n ≤ l.length → (∀ j, j < n → bat l (k + j) = bat l (i + j)) →
    alikeGo l k i f n ≤ n + f ∧ i + alikeGo l k i f n ≤ l.length ∧ (∀ j, j < alikeGo l k i f n → bat l (k + j) = bat l (i + j)) ∧
      (alikeGo l k i f n = n + f ∨ i + alikeGo l k i f n = l.length ∨ bat l (k + alikeGo l k i f n) ≠ bat l (i + alikeGo l k i f n))
  | 0, n, h, ha => ⟨Nat.le_refl _, h, ha, .inl rfl⟩
  | f + 1, n, h, ha => by
    rw [alikeGo]
    by_cases c : i + n < l.length ∧ bat l (k + n) = bat l (i + n)
    · rw [if_pos c]
      obtain ⟨r1, r2, r3, r4⟩ := alikeGo_spec l k i f (n + 1) (by omega) (fun j hj => by
        rcases Nat.lt_succ_iff_lt_or_eq.1 hj with h' | rfl
        · exact ha j h'
        · exact c.2)
      exact ⟨by omega, r2, r3, r4.imp (fun h => by omega) id⟩
    · rw [if_neg c]
      refine ⟨by omega, h, ha, ?_⟩
      by_cases e : i + n = l.length
      · exact .inr (.inl e)
      · exact .inr (.inr fun x => c ⟨by omega, x⟩)
theorem alike_spec (l : List UInt8) (k i : Nat) (h : i ≤ l.length) : alike l k i ≤ 131 ∧ i + alike l k i ≤ l.length ∧ (∀ j, j < alike l k i → bat l (k + j) = bat l (i + j)) ∧
      (alike l k i = 131 ∨ i + alike l k i = l.length ∨ bat l (k + alike l k i) ≠ bat l (i + alike l k i)) := by
  have := alikeGo_spec l k i 131 0 (by omega) (fun j hj => by omega)
  simpa [alike] using this
/-- So many and no more: that is the number. -/
theorem alike_eq (l : List UInt8) (k i n : Nat) (hn : n ≤ 131) (hi : i + n ≤ l.length) (ha : ∀ j, j < n → bat l (k + j) = bat l (i + j))
    (hs : n = 131 ∨ i + n = l.length ∨ bat l (k + n) ≠ bat l (i + n)) : alike l k i = n := by
  obtain ⟨r1, r2, r3, r4⟩ := alike_spec l k i (by omega)
  rcases Nat.lt_trichotomy (alike l k i) n with h | h | h
  · rcases r4 with r4 | r4 | r4
    · omega
    · omega
    · exact absurd (ha _ h) r4
  · exact h
  · rcases hs with hs | hs | hs
    · omega
    · omega
    · exact absurd (r3 _ h) hs

/-- The longest piece of those that begin up to m further back, and how far back it begins; of several the nearest one. -/
def bestGo (l : List UInt8) (i : Nat) : Nat → Nat × Nat
  | 0 => (0, 0)
  | m + 1 => if (bestGo l i m).1 < alike l (i - (m + 1)) i then (alike l (i - (m + 1)) i, m + 1) else bestGo l i m
def best (l : List UInt8) (i : Nat) : Nat × Nat := bestGo l i (min i 255)
theorem bestGo_max (l : List UInt8) (i m : Nat) : (bestGo l i (m + 1)).1 = max (bestGo l i m).1 (alike l (i - (m + 1)) i) := by
  rw [bestGo]; split <;> omega
theorem bestGo_bd (l : List UInt8) (i : Nat) (h : i ≤ l.length) : ∀ m, (bestGo l i m).1 ≤ 131 ∧ i + (bestGo l i m).1 ≤ l.length ∧ (bestGo l i m).2 ≤ m ∧
    (0 < (bestGo l i m).1 → 1 ≤ (bestGo l i m).2 ∧ ∀ j, j < (bestGo l i m).1 → bat l (i - (bestGo l i m).2 + j) = bat l (i + j))
  | 0 => ⟨by simp [bestGo], by simpa [bestGo] using h, by simp [bestGo], fun h => by simp [bestGo] at h⟩
  | m + 1 => by
    obtain ⟨r1, r2, r3, r4⟩ := bestGo_bd l i h m
    obtain ⟨s1, s2, s3, s4⟩ := alike_spec l (i - (m + 1)) i h
    rw [bestGo]
    split
    · exact ⟨s1, s2, Nat.le_refl _, fun _ => ⟨by simp, s3⟩⟩
    · exact ⟨r1, r2, by omega, r4⟩
theorem best_bd (l : List UInt8) (i : Nat) (h : i ≤ l.length) : (best l i).1 ≤ 131 ∧ i + (best l i).1 ≤ l.length ∧ (best l i).2 ≤ i ∧ (best l i).2 ≤ 255 ∧
    (0 < (best l i).1 → 1 ≤ (best l i).2 ∧ ∀ j, j < (best l i).1 → bat l (i - (best l i).2 + j) = bat l (i + j)) := by
  obtain ⟨r1, r2, r3, r4⟩ := bestGo_bd l i h (min i 255)
  exact ⟨r1, r2, by unfold best; omega, by unfold best; omega, r4⟩

theorem app_len {o r p : List UInt8} (h : o ++ r = p) : o.length ≤ p.length := by rw [← h]; simp

/-- Bytes as they are, up to 128 at a time. -/
def plainGo : Nat → List UInt8 → List UInt8
  | 0, _ => []
  | f + 1, l => if l.length = 0 then [] else byt ((min l.length 128 : Nat) - 1) :: (l.take 128 ++ plainGo f (l.drop 128))
def plainly (l : List UInt8) : List UInt8 := plainGo l.length l
theorem plainGo_fuel : ∀ (f g : Nat) (l : List UInt8), l.length ≤ f → l.length ≤ g → plainGo f l = plainGo g l
  | 0, 0, _, _, _ => rfl
  | 0, g + 1, l, h, _ => by rw [plainGo, plainGo, if_pos (by omega)]
  | f + 1, 0, l, _, h => by rw [plainGo, plainGo, if_pos (by omega)]
  | f + 1, g + 1, l, h, h' => by
    rw [plainGo, plainGo]
    by_cases h0 : l.length = 0
    · rw [if_pos h0, if_pos h0]
    · rw [if_neg h0, if_neg h0, plainGo_fuel f g (l.drop 128) (by simp; omega) (by simp; omega)]
theorem plainly_eq (l : List UInt8) : plainly l = if l.length = 0 then [] else byt ((min l.length 128 : Nat) - 1) :: (l.take 128 ++ plainly (l.drop 128)) := by
  rw [plainly, plainGo_fuel l.length (l.length + 1) l (Nat.le_refl _) (by omega), plainGo, plainly, plainGo_fuel l.length (l.drop 128).length (l.drop 128) (by simp) (Nat.le_refl _)]
theorem plainly_nil : plainly [] = [] := rfl
theorem plainly_length (l : List UInt8) : (plainly l).length = l.length + (l.length + 127) / 128 := by
  induction hn : l.length using Nat.strongRecOn generalizing l with
  | _ n ih =>
    rw [plainly_eq]
    split
    · rename_i h; simp; omega
    · rename_i h
      have k := ih (l.drop 128).length (by simp; omega) (l.drop 128) rfl
      simp only [List.length_cons, List.length_append, k, List.length_take, List.length_drop]
      omega

/-- What is packed from place i on, the bytes from place f on being still to be written. -/
def restGo (l : List UInt8) : Nat → Nat → Nat → List UInt8
  | 0, f, _ => plainly (cut l f l.length)
  | n + 1, f, i =>
    if l.length ≤ i then plainly (cut l f l.length)
    else if (best l i).1 < 4 then restGo l n f (i + 1)
    else plainly (cut l f i) ++ byt (124 + (best l i).1) :: byt (best l i).2 :: restGo l n (i + (best l i).1) (i + (best l i).1)
def rest (l : List UInt8) (f i : Nat) : List UInt8 := restGo l (l.length - i) f i
theorem restGo_fuel (l : List UInt8) : ∀ (n m f i : Nat), l.length - i ≤ n → l.length - i ≤ m → restGo l n f i = restGo l m f i
  | 0, 0, _, _, _, _ => rfl
  | 0, m + 1, f, i, h, _ => by rw [restGo, restGo, if_pos (by omega)]
  | n + 1, 0, f, i, _, h => by rw [restGo, restGo, if_pos (by omega)]
  | n + 1, m + 1, f, i, h, h' => by
    rw [restGo, restGo]
    by_cases h0 : l.length ≤ i
    · rw [if_pos h0, if_pos h0]
    · rw [if_neg h0, if_neg h0]
      by_cases h4 : (best l i).1 < 4
      · rw [if_pos h4, if_pos h4, restGo_fuel l n m f (i + 1) (by omega) (by omega)]
      · rw [if_neg h4, if_neg h4, restGo_fuel l n m (i + (best l i).1) (i + (best l i).1) (by omega) (by omega)]
theorem rest_eq (l : List UInt8) (f i : Nat) : rest l f i = if l.length ≤ i then plainly (cut l f l.length)
    else if (best l i).1 < 4 then rest l f (i + 1)
    else plainly (cut l f i) ++ byt (124 + (best l i).1) :: byt (best l i).2 :: rest l (i + (best l i).1) (i + (best l i).1) := by
  rw [rest, restGo_fuel l (l.length - i) (l.length - i + 1) f i (Nat.le_refl _) (by omega), restGo, rest, rest, restGo_fuel l (l.length - i) (l.length - (i + 1)) f (i + 1) (by omega) (Nat.le_refl _), restGo_fuel l (l.length - i) (l.length - (i + (best l i).1)) (i + (best l i).1) (i + (best l i).1) (by omega) (Nat.le_refl _)]
/-- The packed bytes. -/
def packed (l : List UInt8) : List UInt8 := rest l 0 0
theorem rest_end (l : List UInt8) (f i : Nat) (h : l.length ≤ i) : rest l f i = plainly (cut l f l.length) := by rw [rest_eq, if_pos h]
theorem rest_skip (l : List UInt8) (f i : Nat) (h : i < l.length) (h' : (best l i).1 < 4) : rest l f i = rest l f (i + 1) := by rw [rest_eq, if_neg (by omega), if_pos h']
theorem rest_take (l : List UInt8) (f i : Nat) (h : i < l.length) (h' : 4 ≤ (best l i).1) :
    rest l f i = plainly (cut l f i) ++ byt (124 + (best l i).1) :: byt (best l i).2 :: rest l (i + (best l i).1) (i + (best l i).1) := by rw [rest_eq, if_neg (by omega), if_neg (by omega)]

/-- One way of the round: a piece is taken. -/
theorem rel_take {l o : List UInt8} {f i : Nat} (h : o ++ rest l f i = packed l) (hi : i < l.length) (h4 : 4 ≤ (best l i).1) :
    (o ++ plainly (cut l f i) ++ [byt (124 + (best l i).1), byt (best l i).2]) ++ rest l (i + (best l i).1) (i + (best l i).1) = packed l := by
  rw [← h, rest_take l f i hi h4]; simp
theorem rel_skip {l o : List UInt8} {f i : Nat} (h : o ++ rest l f i = packed l) (hi : i < l.length) (h4 : (best l i).1 < 4) : o ++ rest l f (i + 1) = packed l := by
  rw [← h, rest_skip l f i hi h4]
theorem rel_end {l o : List UInt8} {f i : Nat} (h : o ++ rest l f i = packed l) (hi : l.length ≤ i) : o ++ plainly (cut l f l.length) = packed l := by
  rw [← h, rest_end l f i hi]

/-- A packed text is never much longer. -/
theorem rest_length (l : List UInt8) (f i : Nat) (hi : i ≤ l.length) (hf : f ≤ i) : (rest l f i).length + f + f / 128 ≤ l.length + (l.length + 127) / 128 := by
  induction hn : l.length - i using Nat.strongRecOn generalizing f i with
  | _ n ih =>
    by_cases h : l.length ≤ i
    · rw [rest_end l f i h, plainly_length, cut_length l f _ (Nat.le_refl _)]; omega
    · by_cases h' : (best l i).1 < 4
      · rw [rest_skip l f i (by omega) h']; exact ih _ (by omega) f (i + 1) (by omega) (by omega) rfl
      · have hb := best_bd l i hi
        have k := ih _ (by omega) (i + (best l i).1) (i + (best l i).1) (by omega) (Nat.le_refl _) rfl
        rw [rest_take l f i (by omega) (by omega)]
        simp only [List.length_append, List.length_cons, plainly_length, cut_length l f i hi]
        omega
theorem packed_length (l : List UInt8) : (packed l).length ≤ l.length + (l.length + 127) / 128 := by
  have := rest_length l 0 0 (Nat.zero_le _) (Nat.le_refl _)
  unfold packed; omega

/-- A piece laid behind the bytes that are there, byte by byte. -/
def piece (out : List UInt8) (d : Nat) : Nat → List UInt8
  | 0 => out
  | n + 1 => piece out d n ++ [bat (piece out d n) ((piece out d n).length - d)]
theorem piece_length (out : List UInt8) (d : Nat) : ∀ n, (piece out d n).length = out.length + n
  | 0 => rfl
  | n + 1 => by simp [piece, piece_length out d n]; omega

/-- What is unpacked, these bytes being there already; and the error's number. -/
def unpGo : Nat → List UInt8 → List UInt8 → List UInt8 × Int
  | 0, out, _ => (out, 0)
  | n + 1, out, l =>
    if l.length = 0 then (out, 0)
    else if (bat l 0).toNat < 128 then
      if l.length < (bat l 0).toNat + 2 then ([], 5)
      else if 600 < out.length + ((bat l 0).toNat + 1) then ([], 1)
      else unpGo n (out ++ (l.drop 1).take ((bat l 0).toNat + 1)) (l.drop ((bat l 0).toNat + 2))
    else if l.length < 2 then ([], 5)
    else if (bat l 1).toNat = 0 ∨ out.length < (bat l 1).toNat then ([], 4)
    else if 600 < out.length + ((bat l 0).toNat - 124) then ([], 1)
    else unpGo n (piece out (bat l 1).toNat ((bat l 0).toNat - 124)) (l.drop 2)
def unp (out l : List UInt8) : List UInt8 × Int := unpGo l.length out l
theorem unpGo_fuel : ∀ (n m : Nat) (out l : List UInt8), l.length ≤ n → l.length ≤ m → unpGo n out l = unpGo m out l
  | 0, 0, _, _, _, _ => rfl
  | 0, m + 1, out, l, h, _ => by rw [unpGo, unpGo, if_pos (by omega)]
  | n + 1, 0, out, l, _, h => by rw [unpGo, unpGo, if_pos (by omega)]
  | n + 1, m + 1, out, l, h, h' => by
    rw [unpGo, unpGo]
    by_cases h0 : l.length = 0
    · rw [if_pos h0, if_pos h0]
    · rw [if_neg h0, if_neg h0, unpGo_fuel n m _ (l.drop ((bat l 0).toNat + 2)) (by simp; omega) (by simp; omega), unpGo_fuel n m _ (l.drop 2) (by simp; omega) (by simp; omega)]
theorem unp_nil (out : List UInt8) : unp out [] = (out, 0) := rfl
theorem unp_eq (out l : List UInt8) (h0 : 0 < l.length) : unp out l =
    if (bat l 0).toNat < 128 then
      if l.length < (bat l 0).toNat + 2 then ([], 5)
      else if 600 < out.length + ((bat l 0).toNat + 1) then ([], 1)
      else unp (out ++ (l.drop 1).take ((bat l 0).toNat + 1)) (l.drop ((bat l 0).toNat + 2))
    else if l.length < 2 then ([], 5)
    else if (bat l 1).toNat = 0 ∨ out.length < (bat l 1).toNat then ([], 4)
    else if 600 < out.length + ((bat l 0).toNat - 124) then ([], 1)
    else unp (piece out (bat l 1).toNat ((bat l 0).toNat - 124)) (l.drop 2) := by
  rw [unp, unpGo_fuel l.length (l.length + 1) out l (Nat.le_refl _) (by omega), unpGo, if_neg (by omega), unp, unp, unpGo_fuel l.length (l.drop ((bat l 0).toNat + 2)).length _ (l.drop ((bat l 0).toNat + 2)) (by simp) (Nat.le_refl _), unpGo_fuel l.length (l.drop 2).length _ (l.drop 2) (by simp) (Nat.le_refl _)]
theorem unp_plain (out t : List UInt8) (c : UInt8) (h : c.toNat < 128) (h1 : c.toNat + 1 ≤ t.length) (h2 : out.length + (c.toNat + 1) ≤ 600) :
    unp out (c :: t) = unp (out ++ t.take (c.toNat + 1)) (t.drop (c.toNat + 1)) := by
  have e : bat (c :: t) 0 = c := rfl
  rw [unp_eq _ _ (by simp), e, if_pos h, if_neg (by simp; omega), if_neg (by omega), List.drop_one, List.tail_cons, show c.toNat + 2 = c.toNat + 1 + 1 from rfl, List.drop_succ_cons]
theorem unp_piece (out t : List UInt8) (c d : UInt8) (h : 128 ≤ c.toNat) (h0 : 0 < d.toNat) (h1 : d.toNat ≤ out.length) (h2 : out.length + (c.toNat - 124) ≤ 600) :
    unp out (c :: d :: t) = unp (piece out d.toNat (c.toNat - 124)) t := by
  have e : bat (c :: d :: t) 0 = c := rfl
  have e' : bat (c :: d :: t) 1 = d := rfl
  rw [unp_eq _ _ (by simp), e, e', if_neg (by omega), if_neg (by simp), if_neg (by omega), if_neg (by omega)]
  rfl

theorem byt_toNat (n : Nat) (h : n < 256) : (byt (n : Int)).toNat = n := by
  have := byt_nat (n : Int) (by omega) (by omega)
  omega
/-- Bytes as they are come back. -/
theorem unp_plainly (out l r : List UInt8) (h : out.length + l.length ≤ 600) : unp out (plainly l ++ r) = unp (out ++ l) r := by
  induction hn : l.length using Nat.strongRecOn generalizing l out with
  | _ n ih =>
    rw [plainly_eq]
    by_cases h0 : l.length = 0
    · rw [if_pos h0]
      obtain rfl : l = [] := List.eq_nil_of_length_eq_zero h0
      simp
    · rw [if_neg h0]
      have e : (byt ((min l.length 128 : Nat) - 1)).toNat = min l.length 128 - 1 := by
        have := byt_toNat (min l.length 128 - 1) (by omega)
        rw [← this]; congr 2; omega
      have ht : (l.take 128).length = min l.length 128 := by simp; omega
      have k2 := ih (l.drop 128).length (by simp; omega) (out ++ l.take 128) (l.drop 128) (by simp; omega) rfl
      rw [List.cons_append, unp_plain _ _ _ (by rw [e]; omega) (by rw [e]; simp; omega) (by rw [e]; omega), e, List.append_assoc (l.take 128)]
      have k : min l.length 128 - 1 + 1 = (l.take 128).length := by omega
      rw [k, List.take_left, List.drop_left, k2]
      simp
theorem piece_take (l : List UInt8) (i d : Nat) (hd : 1 ≤ d) (hdi : d ≤ i) : ∀ n, i + n ≤ l.length → (∀ j, j < n → bat l (i - d + j) = bat l (i + j)) → piece (l.take i) d n = l.take (i + n)
  | 0, _, _ => rfl
  | n + 1, h, ha => by
    have ih := piece_take l i d hd hdi n (by omega) (fun j hj => ha j (by omega))
    rw [piece, ih]
    have hl : (l.take (i + n)).length = i + n := by simp; omega
    rw [hl, bat_take _ _ _ (by omega)]
    have e := ha n (by omega)
    rw [show i - d + n = i + n - d by omega] at e
    rw [e, bat_lt _ _ (by omega), ← Nat.add_assoc, List.take_succ_eq_append_getElem (by omega)]
/-- What is packed comes back. -/
theorem unp_rest (l : List UInt8) (hl : l.length ≤ 600) (f i : Nat) (hi : i ≤ l.length) (hf : f ≤ i) : unp (l.take f) (rest l f i) = (l, 0) := by
  induction hn : l.length - i using Nat.strongRecOn generalizing f i with
  | _ n ih =>
    have hcut : ∀ i, i ≤ l.length → f ≤ i → l.take f ++ cut l f i = l.take i := by
      intro i hi hf
      have : l.take f = (l.take i).take f := by rw [List.take_take, Nat.min_eq_left hf]
      rw [this, cut, List.take_append_drop]
    by_cases h : l.length ≤ i
    · have e := unp_plainly (l.take f) (cut l f l.length) [] (by rw [cut_length _ _ _ (Nat.le_refl _)]; simp; omega)
      rw [List.append_nil] at e
      rw [rest_end l f i h, e, hcut _ (Nat.le_refl _) (by omega), unp_nil, List.take_length]
    · by_cases h' : (best l i).1 < 4
      · rw [rest_skip l f i (by omega) h']; exact ih _ (by omega) f (i + 1) (by omega) (by omega) rfl
      · obtain ⟨b1, b2, b3, b4, b5⟩ := best_bd l i hi
        obtain ⟨b6, b7⟩ := b5 (by omega)
        have k := ih _ (by omega) (i + (best l i).1) (i + (best l i).1) (by omega) (Nat.le_refl _) rfl
        have e1 : (byt (124 + ((best l i).1 : Int))).toNat = 124 + (best l i).1 := byt_toNat (124 + (best l i).1) (by omega)
        have e2 := byt_toNat (best l i).2 (by omega)
        have hli : (l.take i).length = i := by simp; omega
        rw [rest_take l f i (by omega) (by omega), unp_plainly _ _ _ (by rw [cut_length _ _ _ hi]; simp; omega), hcut i hi hf, unp_piece _ _ _ _ (by omega) (by omega) (by omega) (by omega), e1, e2]
        rw [show 124 + (best l i).1 - 124 = (best l i).1 by omega, piece_take l i _ b6 b3 _ b2 b7]
        exact k
theorem unp_packed (l : List UInt8) (hl : l.length ≤ 600) : unp [] (packed l) = (l, 0) := by
  have := unp_rest l hl 0 0 (Nat.zero_le _) (Nat.le_refl _)
  simpa [packed] using this
end Go.Proofs.Ytkhjmfngeidlcaa
