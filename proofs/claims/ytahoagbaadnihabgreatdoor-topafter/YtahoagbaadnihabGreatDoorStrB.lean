/- Joined texts: Builder, BuilderK, StreamRd, StreamRefRd. -/
import Derived.Test.YtahoagbaadnihabGreatDoorShelf
import Derived.Test.YtahoagbaadnihabGreatDoorMem2
import Derived.Shelf.Strings.Builder1
import Derived.WalkKit
import Derived.Shelf.Strings.BuilderK
import Derived.Test.YtahoagbaadnihabGreatDoorStrA
import Derived.Test.YtahoagbaadnihabGreatDoorArrA
import Derived.Test.YtahoagbaadnihabGreatDoorMem
import Derived.Test.YtahoagbaadnihabGreatDoorSecA
import Derived.Handy
import Derived.Deep.RegionLaw
import Derived.BigRegion
import Derived.Test.YtahoagbaadnihabGreatDoorLow
import Derived.Deep.DeepCutAuto
import Derived.Laws.BitsAllLaws
import Derived.Deep.RegionWith
import Derived.Deep.RegionHeld3
import Derived.Test.YtahoagbaadnihabGreatDoorArrRefCopy
import Derived.Test.YtahoagbaadnihabGreatDoorArrM
/- A strings.Builder of the call's own that is written on: the library's own contracts, laid at this translation by hand (the kit's command does not find the numbers of two types that the library names and no body here does). -/
namespace Go.Proofs.YtahoagbaadnihabGreatDoor
open Go.RowKit Go.Shelf

def bldRen : Go.Shelf.Ren := ⟨fun | 166 => 71 | 240 => 103 | 276 => 148 | n => n, fun | 0 => 0 | 3 => 3 | 4 => 4 | 5 => 5 | 9 => 9 | 20 => 20 | 37 => 97 | 70 => 124 | 72 => 126 | 75 => 129 | 80 => 133 | 164 => 217 | n => n, fun | n => n⟩
theorem bldLays : Go.Proofs.Lays.n166 Tryz.prog bldRen := {
  mixed := by kernel_rfl
  f166 := Tryz.func71.trans (congrArg some (by kernel_rfl))
  f240 := Tryz.func103.trans (congrArg some (by kernel_rfl))
  f276 := Tryz.func148.trans (congrArg some (by kernel_rfl))
  t0 := Tryz.underlying0
  a0 := Tryz.isAgg0
  z0 := Tryz.sizeOf0
  v0 := Tryz.zeroValue0
  t3 := Tryz.underlying3
  a3 := Tryz.isAgg3
  z3 := Tryz.sizeOf3
  v3 := Tryz.zeroValue3
  t4 := Tryz.underlying4
  a4 := Tryz.isAgg4
  z4 := Tryz.sizeOf4
  v4 := Tryz.zeroValue4
  t9 := Tryz.underlying9
  a9 := Tryz.isAgg9
  z9 := Tryz.sizeOf9
  v9 := Tryz.zeroValue9
  t20 := Tryz.underlying20
  a20 := Tryz.isAgg20
  z20 := Tryz.sizeOf20
  v20 := Tryz.zeroValue20
  t37 := Tryz.underlying97
  a37 := Tryz.isAgg97
  z37 := Tryz.sizeOf97
  v37 := Tryz.zeroValue97
  t70 := Tryz.underlying124
  a70 := Tryz.isAgg124
  z70 := Tryz.sizeOf124
  v70 := Tryz.zeroValue124
  t72 := Tryz.underlying126
  a72 := Tryz.isAgg126
  z72 := Tryz.sizeOf126
  v72 := Tryz.zeroValue126
  t75 := Tryz.underlying129
  a75 := Tryz.isAgg129
  z75 := Tryz.sizeOf129
  v75 := Tryz.zeroValue129
  t164 := Tryz.underlying217
  a164 := Tryz.isAgg217
  z164 := Tryz.sizeOf217
  v164 := Tryz.zeroValue217 }
theorem bldExtra : Builder.Extra Tryz.prog bldRen := {
  sizeBuilder := by kernel_rfl
  liesBuilder := by kernel_rfl
  t5 := Tryz.underlying5
  a5 := Tryz.isAgg5
  z5 := Tryz.sizeOf5
  v5 := Tryz.zeroValue5
  infoByte := by kernel_rfl
  cellsByte := by kernel_rfl
  sizeByte := by kernel_rfl
  neB5 := by decide }
/-- A builder of the call's own, in block b, with these bytes. -/
def Bld (b : Nat) (l : List UInt8) (w : World) : Prop := Lib.IsBuilder 126 5 b b (Lib.byteCells l) w
theorem bld_new (w : World) : Bld w.heap.size [] (w.alloc (.cells #[.pointer none, .slice none 0 0] 126)) := Lib.fresh_isBuilder 126 5 w
theorem Bld.below {b : Nat} {l : List UInt8} {w w' : World} (h : Bld b l w) (g : Below w.heap.size w w') : Bld b l w' := by
  have one : ∀ p, Lib.BuilderAt 126 5 b b p (Lib.byteCells l) w → Lib.BuilderAt 126 5 b b p (Lib.byteCells l) w' := by
    rintro p h
    have hlt := h.lt
    obtain ⟨hB, v, hb, ho, hne⟩ := h
    refine ⟨hB, v, (g.block b hlt).trans hb, ho.kept (row := none) ⟨g.os, g.tape, g.output, g.size, fun k hk _ => g.block k hk⟩ ?_, hne⟩
    cases v.ownBlock <;> simp
  rcases h with h | h
  · exact .inl (one _ h)
  · exact .inr (one _ h)
theorem Bld.lt {b : Nat} {l : List UInt8} {w : World} (h : Bld b l w) : b < w.heap.size := by
  rcases h with h | h <;> exact h.lt

/-- A text written at the builder's end. -/
theorem bwrite_any (b : Nat) (l : List UInt8) (s : ByteArray) (w : World) (h : Bld b l w) (hlen : l.length + s.size ≤ 140737488355328) :
    Calls Tryz.prog 71 #[.pointer (some ⟨b, 0, none⟩), .string s] w fun e w' => e = .returned (.tuple #[.int .i64 s.size, .nilIface]) ∧ Bld b (l ++ s.data.toList) w' ∧ Below b w w' := by
  refine Calls.mono (Any.Builder_WriteString bldLays bldExtra b b (Lib.byteCells l) s w h (by rw [Lib.byteCells_length]; exact hlen) (Nat.le_of_lt h.lt)) ?_
  rintro e w' ⟨rfl, h1, h2⟩
  refine ⟨rfl, .inr ?_, h2⟩
  rw [Lib.byteCells_append, ← Lib.strCells_eq]
  exact h1
/-- The builder's text. -/
theorem bstring_any (b : Nat) (l : List UInt8) (w : World) (h : Bld b l w) :
    Calls Tryz.prog 73 #[.pointer (some ⟨b, 0, none⟩)] w fun e w' => e = .returned (.string (str l)) ∧ Below b w w' := Tryz.Builder_String_any b b l w h (Nat.le_of_lt h.lt)
end Go.Proofs.YtahoagbaadnihabGreatDoor

/- A strings.Builder of the call's own beside other memory of the call's own: what is no builder and no row of bytes stays. -/
namespace Go.Proofs.YtahoagbaadnihabGreatDoor
open Go.RowKit Go.Shelf

/-- A builder in block b, with these bytes, that may have been read. -/
def BldK (b : Nat) (l : List UInt8) (w : World) : Prop := Lib.IsBuilderF 126 5 b b (Lib.byteCells l) w
theorem bldK_new (w : World) : BldK w.heap.size [] (w.alloc (.cells #[.pointer none, .slice none 0 0] 126)) := Lib.IsBuilderF.of (bld_new w)
theorem BldK.lt {b : Nat} {l : List UInt8} {w : World} (h : BldK b l w) : b < w.heap.size := by
  rcases h with ⟨_, v, hb, _⟩ | ⟨_, v, hb, _⟩ <;> exact lt_of_block hb
/-- It stays where neither builders nor bytes are changed. -/
theorem BldK.keep {b : Nat} {l : List UInt8} {w w' : World} (h : BldK b l w) (g : ∀ (k : Nat) (cs : Array Value) (t : TypeId) (fz : Nat × Nat), (t = 126 ∨ t = 5) → w.heap[k]? = some (.cells cs t fz) → w'.heap[k]? = some (.cells cs t fz)) : BldK b l w' := by
  have one : ∀ p, Lib.BuilderAtF 126 5 b b p (Lib.byteCells l) w → Lib.BuilderAtF 126 5 b b p (Lib.byteCells l) w' := by
    rintro p ⟨hB, v, hb, ⟨hl, ho⟩, hne⟩
    refine ⟨hB, v, g _ _ _ _ (.inl rfl) hb, ⟨hl, ?_⟩, hne⟩
    rcases ho with h0 | ⟨q, cap, cur, fz, h1, h2, h3, h4⟩
    · exact .inl h0
    · exact .inr ⟨q, cap, cur, fz, h1, h2, g _ _ _ _ (.inr rfl) h3, h4⟩
  rcases h with h | h
  · exact .inl (one _ h)
  · exact .inr (one _ h)
theorem BldK.below {b : Nat} {l : List UInt8} {w w' : World} (h : BldK b l w) (g : Below w.heap.size w w') : BldK b l w' := h.keep fun k _ _ _ _ hk => by rw [g.block k (lt_of_block hk)]; exact hk
/-- A block of another type stays where only the builder is written on. -/
theorem Own.kept {w w' : World} {p b : Nat} {t : TypeId} {V : List Value} (h : Own w p t V) (k : Lib.OthersKept 5 (some b) w w') (ht : t ≠ 5) (hp : p ≠ b) : Own w' p t V := by
  obtain ⟨R, h⟩ := h
  exact ⟨R, k p _ h (fun e => hp (Option.some.inj e)) (fun c fz e => by cases e; exact ht rfl)⟩
theorem rowKept {w w' : World} {b base size n : Nat} {e : TypeId} {v : Value} {xs : List Value} (h : w.ownsRow base e size v n xs) (k : Lib.OthersKept 5 (some b) w w') (he : e ≠ 5) (hb : b < base) : w'.ownsRow base e size v n xs := by
  refine ⟨h.1, ?_⟩
  rcases h.2 with h0 | ⟨g, cap, cur, h1, h2, h3, h4⟩
  · exact .inl h0
  · exact .inr ⟨g, cap, cur, h1, h2, k g _ h3 (fun q => by have := Option.some.inj q; omega) (fun c fz q => by cases q; exact he rfl), h4⟩

theorem bwriteK_any (b : Nat) (l : List UInt8) (s : ByteArray) (w : World) (h : BldK b l w) (hlen : l.length + s.size ≤ 140737488355328) :
    Calls Tryz.prog 71 #[.pointer (some ⟨b, 0, none⟩), .string s] w fun e w' => e = .returned (.tuple #[.int .i64 s.size, .nilIface]) ∧ BldK b (l ++ s.data.toList) w' ∧ Below b w w' ∧ Lib.OthersKept 5 (some b) w w' := by
  refine Calls.mono (Any.Builder_WriteString_k bldLays bldExtra b b (Lib.byteCells l) s w h (by rw [Lib.byteCells_length]; exact hlen) (Nat.le_of_lt h.lt)) ?_
  rintro e w' ⟨rfl, h1, h2, h3⟩
  refine ⟨rfl, .inr ?_, h2, h3⟩
  rw [Lib.byteCells_append, ← Lib.strCells_eq]
  exact h1
theorem blenK_any (b : Nat) (l : List UInt8) (w : World) (h : BldK b l w) :
    Calls Tryz.prog 72 #[.pointer (some ⟨b, 0, none⟩)] w fun e w' => e = .returned (.int .i64 l.length) ∧ w' = w := by
  have := Any.Builder_Len_f Tryz.lays170 b b (Lib.byteCells l) w h
  rw [Lib.byteCells_length] at this
  exact this
theorem bstringK_any (b : Nat) (l : List UInt8) (w : World) (h : BldK b l w) :
    Calls Tryz.prog 73 #[.pointer (some ⟨b, 0, none⟩)] w fun e w' => e = .returned (.string (str l)) ∧ Below b w w' ∧ Lib.OthersKept 5 (some b) w w' :=
  Calls.mono (Any.Builder_String_any_k Tryz.lays169 Tryz.Builder_Extra_169 b b l w h (Nat.le_of_lt h.lt)) fun _ _ ⟨h1, _, h3, h4⟩ => ⟨h1, h3, h4⟩
end Go.Proofs.YtahoagbaadnihabGreatDoor

/- What the program's stream.Read answers. -/
namespace Go.Proofs.YtahoagbaadnihabGreatDoor
open Go.RowKit

theorem stread_no (a : Option Addr) (n c : Nat) (x m : Int) (A : Ar) (w : World) (H : ArrAt w a n A) (ht : stChk A x m ≠ 0) :
    Calls Tryz.prog 107 #[.agg #[.slice a n c], .int .i64 x, .int .i64 m] w fun e w' => e = .returned (.tuple #[.string (str []), .int .i64 (stChk A x m)]) ∧ Below w.heap.size w w' := by
  obtain ⟨W, hW⟩ : ∃ W, W = w.alloc (.cells #[.slice a n c] 35) := ⟨_, rfl⟩
  have hB : Below w.heap.size w W := by rw [hW]; go_grown
  have HT := hid (stcheck_any a n c A x m W (H.below hB))
  generalize stChk A x m = t at HT ht
  have ht' : (t != 0) = true := bne_iff_ne.2 ht
  rw [hW] at HT
  have HP := hid (And.intro hB hW)
  clear ht hB H hW
  go_enter Tryz.func107, Tryz.ntmps107
  go_wp2_with fail
  refine HT.out.mono ?_
  rintro _ w1 ⟨rfl, g1⟩
  rw [← HP.out.2] at g1
  go_wp2
  go_ret2
  exact ⟨rfl, bel3 HP.out.1 g1⟩

theorem ext_take (l : List UInt8) (m : Nat) : (str l).extract 0 m = str (l.take m) := by rw [ext_str, str_list, cut, List.drop_zero]

set_option maxHeartbeats 1600000 in
set_option maxRecDepth 4000 in
theorem stread_ok (b o c : Nat) (h : Nat → Hd) (x M : Nat) (A : Ar) (w : World) (H : Arr w b o 3 h A) (ht : stChk A x M = 0) :
    Calls Tryz.prog 107 #[.agg #[.slice (some ⟨b, o, none⟩) 3 c], .int .i64 x, .int .i64 M] w fun e w' => e = .returned (.tuple #[.string (str ((rdN A x (secs M)).1.take M)), .int .i64 (rdN A x (secs M)).2]) ∧ Below w.heap.size w w' := by
  obtain ⟨hm, hs, hx0, hx1⟩ := stChk_ok A x M ht
  rw [secs_nat] at hx1
  have hmm := (arMay_iff A).1 hm
  obtain ⟨W, hW⟩ : ∃ W, W = w.alloc (.cells #[.slice (some ⟨b, o, none⟩) 3 c] 35) := ⟨_, rfl⟩
  have hB : Below w.heap.size w W := by rw [hW]; go_grown
  have hz : W.heap.size = w.heap.size + 1 := by rw [hW]; simp
  have c0 : W.cell? ⟨w.heap.size, 0, none⟩ = some (.slice (some ⟨b, o, none⟩) 3 c) := by rw [hW]; simp
  have HA : ∀ wx, Below W.heap.size W wx → ArrAt wx (some ⟨b, o, none⟩) 3 A := fun wx g => .inr ⟨b, o, h, rfl, (H.below hB).below g⟩
  have HT := hid (stcheck_any (some ⟨b, o, none⟩) 3 c A x M W (HA W (Below.refl _ _)))
  rw [ht, hW] at HT
  have CR := hid (fun (i : Int) wx (g : Below W.heap.size W wx) => aread_any (some ⟨b, o, none⟩) 3 c i A wx (HA wx g))
  have CS := hid (fun wx => sectors_ok M wx (by omega))
  have HP := hid (And.intro hB (And.intro hz c0))
  have HE := hid hW
  have hM : M ≤ 1536 := by omega
  have hS := secs_64 M hM
  have HM := hid (secs_le M)
  have hx64 : x ≤ 64 := by omega
  clear hB hz c0 H hW HA hm hmm ht hs hx0 hx1
  generalize secs M = K at hS HM CS
  go_enter Tryz.func107, Tryz.ntmps107
  go_wp2_with fail
  refine HT.out.mono ?_
  rintro _ w1 ⟨rfl, g1⟩
  rw [← HE.out] at g1
  have G1 := hid g1
  clear g1 HT HE
  go_upto_region 5 with fail
  obtain ⟨W1, hW1⟩ : ∃ W1, W1 = w1.alloc (.cells #[.pointer none, .slice none 0 0] 126) := ⟨_, rfl⟩
  have b1 : Below w1.heap.size w1 W1 := by rw [hW1]; exact (Below.refl _ w1).alloc (Nat.le_refl _) _
  have n1 : Bld w1.heap.size [] W1 := by rw [hW1]; exact bld_new w1
  rw [← hW1]
  have S1 := hid (And.intro n1 (And.intro (bel3 G1.out b1) G1.out.size))
  clear hW1 b1 n1 G1
  generalize w1.heap.size = pb at S1 ⊢
  go_wp2_with (go_at_call 120; refine (CS.out _).mono ?_; rintro _ w9 ⟨rfl, h9⟩; (have h8 := h9.symm); subst h8)
  go_loopw [23] (fun i wr => ∃ k : Nat, k ≤ K ∧ i = .int .i64 k ∧ Hid (((rdN A x k).2 = 0 ∧ Bld pb (rdN A x k).1 wr) ∧ Below W.heap.size W wr)) (fun i _ => K - (intOf i).toNat)
  case atStart => exact ⟨0, Nat.zero_le _, rfl, ⟨rfl, S1.out.1⟩, S1.out.2.1⟩
  case round =>
    obtain ⟨k, hk, rfl, HI⟩ := hrel
    have HB := hid S1.out.2.2
    clear S1
    obtain ⟨⟨r0, i0⟩, g0⟩ := HI.out
    have HL := hid (rd_len A x k r0)
    by_cases hlt : k < K
    · have hlt' : (k : Int) < K := by omega
      have d0 := (g0.cell (p := ⟨w.heap.size, 0, none⟩) (by show w.heap.size < W.heap.size; rw [HP.out.2.1]; omega)).trans HP.out.2.2
      have C2 := hid (CR.out ((x + k : Nat) : Int) wr g0)
      have R1 := hid (rd_succ A x k r0)
      have R2 := hid (rd_stop A x k r0)
      have R3 := hid (arRead_len A (x + k))
      have I0 := hid (And.intro i0 g0)
      clear i0 g0 HI r0
      generalize arRead A ((x + k : Nat) : Int) = R at C2 R1 R2 R3
      rw [show ((x + k : Nat) : Int) = (x : Int) + k by omega] at C2
      by_cases e : R.2.2 = 0
      · have e' : (R.2.2 != 0) = false := bne_eq_false_iff_eq.2 e
        have r1 := R1.out e
        have r3 := R3.out e
        have RN := hid (And.intro r1 r3)
        clear R1 R2 R3 r1 r3 e
        go_wp2_with fail
        refine C2.out.mono ?_
        rintro _ w3 ⟨rfl, g3⟩
        have I3 := hid (And.intro (I0.out.1.below g3) (bel3 I0.out.2 g3))
        clear g3 C2 I0 d0
        go_wp2_with fail
        refine (bwrite_any pb _ (str R.1) w3 I3.out.1 (by rw [HL.out, str_size, RN.out.2]; omega)).mono ?_
        rintro _ w4 ⟨rfl, h4, g4⟩
        rw [str_list] at h4
        have I4 := hid (And.intro (show (rdN A x (k + 1)).2 = 0 ∧ Bld pb (rdN A x (k + 1)).1 w4 by rw [RN.out.1]; exact ⟨rfl, h4⟩) (I3.out.2.trans (g4.mono HB.out)))
        clear h4 g4 I3
        go_wp2
        go_roundw
        case rel => exact ⟨k + 1, hlt, by go_num, I4.out⟩
        case measure => simp [intOf]; omega
      · have e' : (R.2.2 != 0) = true := bne_iff_ne.2 e
        have r2 := R2.out e K hlt
        have RN := hid r2
        clear R1 R2 R3 r2 e
        go_wp2_with fail
        refine C2.out.mono ?_
        rintro _ w3 ⟨rfl, g3⟩
        have G3 := hid (bel3 I0.out.2 g3)
        clear g3 C2 I0 d0
        go_wp2
        go_ret2
        refine ⟨?_, bel3 HP.out.1 G3.out⟩
        rw [RN.out]
        show _ = Ending.returned (.tuple #[.string (str (([] : List UInt8).take M)), .int .i64 R.2.2])
        rw [List.take_nil]
        rfl
    · have hlt' : ¬ (k : Int) < K := by omega
      obtain rfl : k = K := by omega
      have CT := hid (bstring_any pb _ wr i0)
      have I0 := hid (And.intro r0 g0)
      clear i0 g0 HI hlt hk r0
      obtain ⟨R, hR⟩ : ∃ R, rdN A x k = R := ⟨_, rfl⟩
      rw [hR] at CT HL I0
      have HR := hid hR
      clear hR
      obtain ⟨L, E⟩ := R
      have hl : L.length = 24 * k := HL.out
      have sz : (str L).size = 24 * k := by rw [str_size, hl]
      have hMk := HM.out
      have ET := hid (ext_take L M)
      have I1 := hid (And.intro (show E = 0 from I0.out.1) I0.out.2)
      change Hid (Calls Tryz.prog _ _ wr fun e w' => e = .returned (.string (str L)) ∧ Below pb wr w') at CT
      clear I0 hl HL
      generalize str L = Z at CT sz ET
      go_wp2_with fail
      refine CT.out.mono ?_
      rintro _ w5 ⟨rfl, g5⟩
      have G5 := hid (I1.out.2.trans (g5.mono HB.out))
      clear g5
      go_wp2
      go_ret2
      refine ⟨?_, bel3 HP.out.1 G5.out⟩
      rw [HR.out, I1.out.1]
      show _ = Ending.returned (.tuple #[.string (str (L.take M)), .int .i64 0])
      rw [← ET.out]
      rfl

theorem stread_any (a : Option Addr) (n c : Nat) (x m : Int) (A : Ar) (w : World) (H : ArrAt w a n A) :
    Calls Tryz.prog 107 #[.agg #[.slice a n c], .int .i64 x, .int .i64 m] w fun e w' => e = .returned (.tuple #[.string (str (stRead A x m).1), .int .i64 (stRead A x m).2]) ∧ Below w.heap.size w w' := by
  unfold stRead
  by_cases h : stChk A x m = 0
  · rw [if_pos h]
    obtain ⟨hm, h1, h0, _⟩ := stChk_ok A x m h
    obtain ⟨x', rfl⟩ : ∃ x' : Nat, x = x' := ⟨x.toNat, by omega⟩
    obtain ⟨m', rfl⟩ : ∃ m' : Nat, m = m' := ⟨m.toNat, by omega⟩
    obtain ⟨rfl, b, o, hd, rfl, HX⟩ := may_three H hm
    exact stread_ok b o c hd x' m' A w HX h
  · rw [if_neg h]
    exact stread_no a n c x m A w H h
end Go.Proofs.YtahoagbaadnihabGreatDoor

/- What the document's own StreamRead answers. -/
namespace Go.Proofs.YtahoagbaadnihabGreatDoor
open Go.RowKit

end Go.Proofs.YtahoagbaadnihabGreatDoor
