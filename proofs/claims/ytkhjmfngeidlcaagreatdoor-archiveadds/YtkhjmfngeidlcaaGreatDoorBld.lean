/- Joined texts: Builder, BuilderK. -/
import Derived.Test.YtkhjmfngeidlcaaGreatDoorShelf
import Derived.Test.YtkhjmfngeidlcaaGreatDoorMem2
import Derived.Shelf.Strings.Builder1
import Derived.WalkKit
import Derived.Shelf.Strings.BuilderK
/- A strings.Builder of the call's own that is written on: the library's own contracts, laid at this translation by hand (the kit's command does not find the numbers of two types that the library names and no body here does). -/
namespace Go.Proofs.YtkhjmfngeidlcaaGreatDoor
open Go.RowKit Go.Shelf

def bldRen : Go.Shelf.Ren := ⟨fun | 166 => 37 | 240 => 69 | 276 => 108 | n => n, fun | 0 => 0 | 3 => 3 | 4 => 4 | 5 => 5 | 9 => 9 | 20 => 20 | 37 => 75 | 70 => 74 | 72 => 77 | 75 => 80 | 80 => 83 | 164 => 139 | n => n, fun | n => n⟩
theorem bldLays : Go.Proofs.Lays.n166 Tryz.prog bldRen := {
  mixed := by kernel_rfl
  f166 := Tryz.func37.trans (congrArg some (by kernel_rfl))
  f240 := Tryz.func69.trans (congrArg some (by kernel_rfl))
  f276 := Tryz.func108.trans (congrArg some (by kernel_rfl))
  t0 := Tryz.underlying0
  a0 := Tryz.isAgg0
  z0 := Tryz.sizeOf0
  v0 := Tryz.zeroValue0
  t3 := Tryz.underlying3
  a3 := Tryz.isAgg3
  z3 := Tryz.sizeOf3
  v3 := Tryz.zeroValue3
  t4 := Tryz.underlying4
  a4 := Tryz.isAgg4
  z4 := Tryz.sizeOf4
  v4 := Tryz.zeroValue4
  t9 := Tryz.underlying9
  a9 := Tryz.isAgg9
  z9 := Tryz.sizeOf9
  v9 := Tryz.zeroValue9
  t20 := Tryz.underlying20
  a20 := Tryz.isAgg20
  z20 := Tryz.sizeOf20
  v20 := Tryz.zeroValue20
  t37 := Tryz.underlying75
  a37 := Tryz.isAgg75
  z37 := Tryz.sizeOf75
  v37 := Tryz.zeroValue75
  t70 := Tryz.underlying74
  a70 := Tryz.isAgg74
  z70 := Tryz.sizeOf74
  v70 := Tryz.zeroValue74
  t72 := Tryz.underlying77
  a72 := Tryz.isAgg77
  z72 := Tryz.sizeOf77
  v72 := Tryz.zeroValue77
  t75 := Tryz.underlying80
  a75 := Tryz.isAgg80
  z75 := Tryz.sizeOf80
  v75 := Tryz.zeroValue80
  t164 := Tryz.underlying139
  a164 := Tryz.isAgg139
  z164 := Tryz.sizeOf139
  v164 := Tryz.zeroValue139 }
theorem bldExtra : Builder.Extra Tryz.prog bldRen := {
  sizeBuilder := by kernel_rfl
  liesBuilder := by kernel_rfl
  t5 := Tryz.underlying5
  a5 := Tryz.isAgg5
  z5 := Tryz.sizeOf5
  v5 := Tryz.zeroValue5
  infoByte := by kernel_rfl
  cellsByte := by kernel_rfl
  sizeByte := by kernel_rfl
  neB5 := by decide }
/-- A builder of the call's own, in block b, with these bytes. -/
def Bld (b : Nat) (l : List UInt8) (w : World) : Prop := Lib.IsBuilder 77 5 b b (Lib.byteCells l) w
theorem bld_new (w : World) : Bld w.heap.size [] (w.alloc (.cells #[.pointer none, .slice none 0 0] 77)) := Lib.fresh_isBuilder 77 5 w
theorem Bld.below {b : Nat} {l : List UInt8} {w w' : World} (h : Bld b l w) (g : Below w.heap.size w w') : Bld b l w' := by
  have one : ∀ p, Lib.BuilderAt 77 5 b b p (Lib.byteCells l) w → Lib.BuilderAt 77 5 b b p (Lib.byteCells l) w' := by
    rintro p h
    have hlt := h.lt
    obtain ⟨hB, v, hb, ho, hne⟩ := h
    refine ⟨hB, v, (g.block b hlt).trans hb, ho.kept (row := none) ⟨g.os, g.tape, g.output, g.size, fun k hk _ => g.block k hk⟩ ?_, hne⟩
    cases v.ownBlock <;> simp
  rcases h with h | h
  · exact .inl (one _ h)
  · exact .inr (one _ h)
theorem Bld.lt {b : Nat} {l : List UInt8} {w : World} (h : Bld b l w) : b < w.heap.size := by
  rcases h with h | h <;> exact h.lt

/-- A text written at the builder's end. -/
theorem bwrite_any (b : Nat) (l : List UInt8) (s : ByteArray) (w : World) (h : Bld b l w) (hlen : l.length + s.size ≤ 140737488355328) :
    Calls Tryz.prog 37 #[.pointer (some ⟨b, 0, none⟩), .string s] w fun e w' => e = .returned (.tuple #[.int .i64 s.size, .nilIface]) ∧ Bld b (l ++ s.data.toList) w' ∧ Below b w w' := by
  refine Calls.mono (Any.Builder_WriteString bldLays bldExtra b b (Lib.byteCells l) s w h (by rw [Lib.byteCells_length]; exact hlen) (Nat.le_of_lt h.lt)) ?_
  rintro e w' ⟨rfl, h1, h2⟩
  refine ⟨rfl, .inr ?_, h2⟩
  rw [Lib.byteCells_append, ← Lib.strCells_eq]
  exact h1
/-- The builder's text. -/
theorem bstring_any (b : Nat) (l : List UInt8) (w : World) (h : Bld b l w) :
    Calls Tryz.prog 38 #[.pointer (some ⟨b, 0, none⟩)] w fun e w' => e = .returned (.string (str l)) ∧ Below b w w' := Tryz.Builder_String_any b b l w h (Nat.le_of_lt h.lt)
end Go.Proofs.YtkhjmfngeidlcaaGreatDoor

/- A strings.Builder of the call's own beside other memory of the call's own: what is no builder and no row of bytes stays. -/
namespace Go.Proofs.YtkhjmfngeidlcaaGreatDoor
open Go.RowKit Go.Shelf

/-- A builder in block b, with these bytes, that may have been read. -/
def BldK (b : Nat) (l : List UInt8) (w : World) : Prop := Lib.IsBuilderF 77 5 b b (Lib.byteCells l) w
theorem bldK_new (w : World) : BldK w.heap.size [] (w.alloc (.cells #[.pointer none, .slice none 0 0] 77)) := Lib.IsBuilderF.of (bld_new w)
theorem BldK.lt {b : Nat} {l : List UInt8} {w : World} (h : BldK b l w) : b < w.heap.size := by
  rcases h with ⟨_, v, hb, _⟩ | ⟨_, v, hb, _⟩ <;> exact lt_of_block hb
/-- It stays where neither builders nor bytes are changed. -/
theorem BldK.keep {b : Nat} {l : List UInt8} {w w' : World} (h : BldK b l w) (g : ∀ (k : Nat) (cs : Array Value) (t : TypeId) (fz : Nat × Nat), (t = 77 ∨ t = 5) → w.heap[k]? = some (.cells cs t fz) → w'.heap[k]? = some (.cells cs t fz)) : BldK b l w' := by
  have one : ∀ p, Lib.BuilderAtF 77 5 b b p (Lib.byteCells l) w → Lib.BuilderAtF 77 5 b b p (Lib.byteCells l) w' := by
    rintro p ⟨hB, v, hb, ⟨hl, ho⟩, hne⟩
    refine ⟨hB, v, g _ _ _ _ (.inl rfl) hb, ⟨hl, ?_⟩, hne⟩
    rcases ho with h0 | ⟨q, cap, cur, fz, h1, h2, h3, h4⟩
    · exact .inl h0
    · exact .inr ⟨q, cap, cur, fz, h1, h2, g _ _ _ _ (.inr rfl) h3, h4⟩
  rcases h with h | h
  · exact .inl (one _ h)
  · exact .inr (one _ h)
theorem BldK.below {b : Nat} {l : List UInt8} {w w' : World} (h : BldK b l w) (g : Below w.heap.size w w') : BldK b l w' := h.keep fun k _ _ _ _ hk => by rw [g.block k (lt_of_block hk)]; exact hk
/-- A block of another type stays where only the builder is written on. -/
theorem Own.kept {w w' : World} {p b : Nat} {t : TypeId} {V : List Value} (h : Own w p t V) (k : Lib.OthersKept 5 (some b) w w') (ht : t ≠ 5) (hp : p ≠ b) : Own w' p t V := by
  obtain ⟨R, h⟩ := h
  exact ⟨R, k p _ h (fun e => hp (Option.some.inj e)) (fun c fz e => by cases e; exact ht rfl)⟩
theorem rowKept {w w' : World} {b base size n : Nat} {e : TypeId} {v : Value} {xs : List Value} (h : w.ownsRow base e size v n xs) (k : Lib.OthersKept 5 (some b) w w') (he : e ≠ 5) (hb : b < base) : w'.ownsRow base e size v n xs := by
  refine ⟨h.1, ?_⟩
  rcases h.2 with h0 | ⟨g, cap, cur, h1, h2, h3, h4⟩
  · exact .inl h0
  · exact .inr ⟨g, cap, cur, h1, h2, k g _ h3 (fun q => by have := Option.some.inj q; omega) (fun c fz q => by cases q; exact he rfl), h4⟩

theorem bwriteK_any (b : Nat) (l : List UInt8) (s : ByteArray) (w : World) (h : BldK b l w) (hlen : l.length + s.size ≤ 140737488355328) :
    Calls Tryz.prog 37 #[.pointer (some ⟨b, 0, none⟩), .string s] w fun e w' => e = .returned (.tuple #[.int .i64 s.size, .nilIface]) ∧ BldK b (l ++ s.data.toList) w' ∧ Below b w w' ∧ Lib.OthersKept 5 (some b) w w' := by
  refine Calls.mono (Any.Builder_WriteString_k bldLays bldExtra b b (Lib.byteCells l) s w h (by rw [Lib.byteCells_length]; exact hlen) (Nat.le_of_lt h.lt)) ?_
  rintro e w' ⟨rfl, h1, h2, h3⟩
  refine ⟨rfl, .inr ?_, h2, h3⟩
  rw [Lib.byteCells_append, ← Lib.strCells_eq]
  exact h1
theorem blenK_any (b : Nat) (l : List UInt8) (w : World) (h : BldK b l w) :
    Calls Tryz.prog 36 #[.pointer (some ⟨b, 0, none⟩)] w fun e w' => e = .returned (.int .i64 l.length) ∧ w' = w := by
  have := Any.Builder_Len_f Tryz.lays170 b b (Lib.byteCells l) w h
  rw [Lib.byteCells_length] at this
  exact this
theorem bstringK_any (b : Nat) (l : List UInt8) (w : World) (h : BldK b l w) :
    Calls Tryz.prog 38 #[.pointer (some ⟨b, 0, none⟩)] w fun e w' => e = .returned (.string (str l)) ∧ Below b w w' ∧ Lib.OthersKept 5 (some b) w w' :=
  Calls.mono (Any.Builder_String_any_k Tryz.lays169 Tryz.Builder_Extra_169 b b l w h (Nat.le_of_lt h.lt)) fun _ _ ⟨h1, _, h3, h4⟩ => ⟨h1, h3, h4⟩
end Go.Proofs.YtkhjmfngeidlcaaGreatDoor
