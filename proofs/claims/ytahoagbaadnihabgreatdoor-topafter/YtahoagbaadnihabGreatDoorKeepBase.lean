/- Joined texts: KeepRaw, KeepTab, Picked. -/
import Derived.Test.YtahoagbaadnihabGreatDoorHigh
import Derived.Test.YtahoagbaadnihabGreatDoorMem
import Derived.Deep.Slices
import Derived.ChangeSame
import Derived.ProofKit
import Derived.Lib.LaidTab
import Derived.Shelf.Strconv.Itoa3
import Derived.Test.YtahoagbaadnihabGreatDoorRows
import Derived.Test.YtahoagbaadnihabGreatDoorLow
import Derived.WalkKit
/- Lists of raw things as arguments; the table of powers of ten. -/
namespace Go.Proofs.YtahoagbaadnihabGreatDoor
open Go.RowKit Go.Lib Go.Deep Go.ChangeShapes Go.WideShapes

/-- A number of 64 bits. -/
def i64Ok (n : Int) : Prop := -9223372036854775808 ≤ n ∧ n ≤ 9223372036854775807
def nil4 : Raw4 := ⟨0, 0, 0, 0⟩
def raw (R : List Raw4) (i : Nat) : Raw4 := R[i]?.getD nil4
/-- Raw things stand from a place of a block on. -/
structure Raws (w : World) (b o n : Nat) (R : List Raw4) : Prop where
  sn : n = R.length
  nb : n ≤ maxLen
  lt : b < w.heap.size
  ok : ∀ i, i < n → i64Ok (raw R i).kind ∧ i64Ok (raw R i).a ∧ i64Ok (raw R i).b ∧ i64Ok (raw R i).c
  c0 : ∀ i, i < n → w.cell? ⟨b, o + i * 4, none⟩ = some (.int .i64 (raw R i).kind)
  c1 : ∀ i, i < n → w.cell? ⟨b, o + i * 4 + 1, none⟩ = some (.int .i64 (raw R i).a)
  c2 : ∀ i, i < n → w.cell? ⟨b, o + i * 4 + 2, none⟩ = some (.int .i64 (raw R i).b)
  c3 : ∀ i, i < n → w.cell? ⟨b, o + i * 4 + 3, none⟩ = some (.int .i64 (raw R i).c)
def RawsAt (w : World) (a : Option Addr) (n : Nat) (R : List Raw4) : Prop := (n = 0 ∧ R = []) ∨ ∃ b o, a = some ⟨b, o, none⟩ ∧ Raws w b o n R
section
variable {w w' : World} {a : Option Addr} {b o n : Nat} {R : List Raw4}
theorem Raws.below (H : Raws w b o n R) (g : Below w.heap.size w w') : Raws w' b o n R :=
  ⟨H.sn, H.nb, Nat.lt_of_lt_of_le H.lt g.size, H.ok, fun i hi => (g.cell (p := ⟨b, o + i * 4, none⟩) H.lt).trans (H.c0 i hi), fun i hi => (g.cell (p := ⟨b, o + i * 4 + 1, none⟩) H.lt).trans (H.c1 i hi),
    fun i hi => (g.cell (p := ⟨b, o + i * 4 + 2, none⟩) H.lt).trans (H.c2 i hi), fun i hi => (g.cell (p := ⟨b, o + i * 4 + 3, none⟩) H.lt).trans (H.c3 i hi)⟩
theorem RawsAt.below (H : RawsAt w a n R) (g : Below w.heap.size w w') : RawsAt w' a n R := by
  rcases H with H | ⟨b, o, e, H⟩
  · exact .inl H
  · exact .inr ⟨b, o, e, H.below g⟩
theorem RawsAt.len (H : RawsAt w a n R) : n = R.length := by
  rcases H with ⟨h1, h2⟩ | ⟨b, o, e, H⟩
  · rw [h1, h2]; rfl
  · exact H.sn
theorem RawsAt.nb (H : RawsAt w a n R) : n ≤ maxLen := by
  rcases H with ⟨h1, _⟩ | ⟨b, o, e, H⟩
  · rw [h1]; exact Nat.zero_le _
  · exact H.nb
end
theorem wf_i64 {n : Int} (h : (Lit.int .i64 n).wf = true) : i64Ok n := by
  simp only [Lit.wf, Bool.and_eq_true, decide_eq_true_eq] at h
  exact h
section
variable {H : Type} {enc : TypeId × Value → H} {W : World}
set_option maxRecDepth 40000 in
theorem open_raws {base : Nat} {v : Value} {d : DataW H} {p : List MemPlace} (hval : Value.okWide Tryz.prog W .any base 22 v) (h : DataW.Trod enc Tryz.prog W 0 (fun _ => true) true 22 v d p) :
    ∃ (a : Option Addr) (n c : Nat) (R : List Raw4), v = .slice a n c ∧ RawsAt W a n R ∧ n ≤ c := by
  obtain ⟨a, n, c, rfl⟩ := okWide_slice Tryz.underlying22 hval
  obtain ⟨fuel, hf⟩ := h
  rcases open_slice Tryz.underlying22 hf with ⟨hc, _⟩ | ⟨a, len, cap, m, k, D, Pl, hc, _, hl, hm, hmm, _, hx⟩
  · simp [Value.cells] at hc
    obtain ⟨rfl, rfl, rfl⟩ := hc
    exact ⟨none, 0, 0, [], rfl, .inl ⟨rfl, rfl⟩, Nat.le_refl _⟩
  · simp [Value.cells] at hc
    obtain ⟨rfl, rfl, rfl⟩ := hc
    simp only [if_true] at hmm
    have each : ∀ i, i < n → ∃ r : Raw4, (i64Ok r.kind ∧ i64Ok r.a ∧ i64Ok r.b ∧ i64Ok r.c) ∧ W.cell? (a.add (i * 4)) = some (.int .i64 r.kind) ∧ W.cell? (a.add (i * 4 + 1)) = some (.int .i64 r.a) ∧ W.cell? (a.add (i * 4 + 2)) = some (.int .i64 r.b) ∧ W.cell? (a.add (i * 4 + 3)) = some (.int .i64 r.c) := by
      intro i hi
      obtain ⟨cs, h1, h2⟩ := hx i (by omega)
      rw [show Tryz.prog.cellsOf 70 = 4 by kernel_rfl] at h1
      obtain ⟨_, hlen, hcell⟩ := World.cells?_some h1
      obtain ⟨xs, k2, hk, hxy, _, hxl, hf⟩ := DataW.trod_struct Tryz.underlying70 h2
      match cs, hlen, xs, hxl with
      | [v0, v1, v2, v3], _, [y0, y1, y2, y3], _ =>
        have e0 := hcell 0 (by omega)
        have e1 := hcell 1 (by omega)
        have e2 := hcell 2 (by omega)
        have e3 := hcell 3 (by omega)
        rw [add_add] at e0 e1 e2 e3
        have g0 : DataW.trod enc Tryz.prog W 0 (fun _ => true) true k2 3 [v0] = some y0 := hf 0 _ rfl
        have g1 : DataW.trod enc Tryz.prog W 0 (fun _ => true) true k2 3 [v1] = some y1 := hf 1 _ rfl
        have g2 : DataW.trod enc Tryz.prog W 0 (fun _ => true) true k2 3 [v2] = some y2 := hf 2 _ rfl
        have g3 : DataW.trod enc Tryz.prog W 0 (fun _ => true) true k2 3 [v3] = some y3 := hf 3 _ rfl
        obtain ⟨n0, q0, _, w0⟩ := DataW.trod_int Tryz.underlying3 g0
        obtain ⟨n1, q1, _, w1⟩ := DataW.trod_int Tryz.underlying3 g1
        obtain ⟨n2, q2, _, w2⟩ := DataW.trod_int Tryz.underlying3 g2
        obtain ⟨n3, q3, _, w3⟩ := DataW.trod_int Tryz.underlying3 g3
        cases q0; cases q1; cases q2; cases q3
        exact ⟨⟨n0, n1, n2, n3⟩, ⟨wf_i64 w0, wf_i64 w1, wf_i64 w2, wf_i64 w3⟩, by simpa using e0, by simpa using e1, by simpa using e2, by simpa using e3⟩
    have : Inhabited Raw4 := ⟨nil4⟩
    obtain ⟨q, hq⟩ := choose_lt each
    have hA : ∀ i, i < n → raw ((List.range n).map q) i = q i := fun i hi => by simp [raw, hi]
    refine ⟨some a, n, c, (List.range n).map q, rfl, ?_, hl⟩
    by_cases h0 : n = 0
    · exact .inl ⟨h0, by simp [h0]⟩
    · have g0 := (hq 0 (by omega)).2.1
      have hsb : a.spot = none ∧ a.block < W.heap.size := by
        unfold World.cell? at g0
        split at g0
        · rename_i c t f hc
          refine ⟨?_, lt_of_block hc⟩
          by_cases hs : (a.add (0 * 4)).spot.isSome = true
          · rw [if_pos hs] at g0; cases g0
          · have : (a.add (0 * 4)).spot = a.spot := by cases a; rfl
            rw [this] at hs; simpa using hs
        · cases g0
      obtain ⟨b, o, s⟩ := a
      obtain ⟨hs, hb⟩ := hsb
      cases hs
      refine .inr ⟨b, o, rfl, by simp, by omega, hb, fun i hi => by rw [hA i hi]; exact (hq i hi).1, fun i hi => ?_, fun i hi => ?_, fun i hi => ?_, fun i hi => ?_⟩
      · have := (hq i hi).2.1; rw [Addr.add_lit] at this; rw [hA i hi]; exact this
      · have := (hq i hi).2.2.1; rw [Addr.add_lit] at this; rw [hA i hi]; exact this
      · have := (hq i hi).2.2.2.1; rw [Addr.add_lit] at this; rw [hA i hi]; exact this
      · have := (hq i hi).2.2.2.2; rw [Addr.add_lit] at this; rw [hA i hi]; exact this
end

/-- The table of powers of ten is laid. -/
def Pow (w : World) : Prop := TabIs Tryz.prog w "internal/strconv.uint64pow10" .u64 pow10Tab
theorem Pow.below {w w' : World} (h : Pow w) (g : Below w.heap.size w w') : Pow w' := by
  unfold Pow TabIs World.var? at h ⊢
  obtain ⟨k, hk, hv⟩ := Option.bind_eq_some_iff.1 h
  rw [hk]
  show (match w'.heap[k]? with | some (.cells cs _ _) => some cs | _ => none) = _
  have hlt : k < w.heap.size := by
    rcases Nat.lt_or_ge k w.heap.size with h1 | h1
    · exact h1
    · rw [Array.getElem?_eq_none h1] at hv; cases hv
  rw [g.block k hlt]
  exact hv
end Go.Proofs.YtahoagbaadnihabGreatDoor

/- From the listed variables to the table of powers of ten. -/
namespace Go.Proofs.YtahoagbaadnihabGreatDoor
open Go.RowKit Go.Lib

theorem tab_data : (Rows.laid_internal_strconv_uint64pow10 : DataW Unit) = tabData .u64 pow10Tab := by kernel_rfl
theorem pow_tab {W : World} {g : Nat} {t : TypeId} {cs : Array Value} {fuel : Nat} {p : List MemPlace} (hg : Tryz.prog.globalNamed "internal/strconv.uint64pow10" = some g) (ht : (Tryz.prog.globals[g]?).map (·.type) = some t) (hv : W.var? Tryz.prog "internal/strconv.uint64pow10" = some cs)
    (hd : DataW.trod (H := Unit) (fun _ => ()) Tryz.prog W 0 (fun _ => true) false fuel t cs.toList = some (Rows.laid_internal_strconv_uint64pow10, p)) : Pow W := by
  rw [tab_data] at hd
  have e1 : Tryz.prog.globalNamed "internal/strconv.uint64pow10" = some 0 := by kernel_rfl
  obtain rfl := Option.some.inj (hg.symm.trans e1)
  have e2 : (Tryz.prog.globals[0]?).map (·.type) = some 215 := by kernel_rfl
  obtain rfl := Option.some.inj (ht.symm.trans e2)
  have := cells_of_tab Tryz.underlying215 Tryz.underlying95 (by kernel_rfl) (by kernel_rfl) hd
  unfold Pow TabIs
  rw [hv, ← this]
theorem pow_laid {W : World} {x1 x2 : String × DataW Unit} {r : List (String × DataW Unit)} (h : laidMet Tryz.prog (x1 :: x2 :: ("internal/strconv.uint64pow10", Rows.laid_internal_strconv_uint64pow10) :: r) W) : Pow W := by
  obtain ⟨ps, h0, _⟩ := h
  obtain ⟨n1, d1⟩ := x1
  obtain ⟨n2, d2⟩ := x2
  obtain ⟨_, _, _, _, _, _, _, _, _, _, h1, _⟩ := h0
  obtain ⟨_, _, _, _, _, _, _, _, _, _, h2, _⟩ := h1
  obtain ⟨g, t, cs, fuel, p, q, hg, ht, hv, hd, _, _⟩ := h2
  exact pow_tab hg ht hv hd
end Go.Proofs.YtahoagbaadnihabGreatDoor

/- What 'picked' answers: a number from 0 to many - 1; it changes nothing. -/
namespace Go.Proofs.YtahoagbaadnihabGreatDoor
open Go.RowKit
set_option maxHeartbeats 400000 in
theorem picked_any (n many : Int) (w : World) (hn : -9223372036854775808 ≤ n) (hn' : n ≤ 9223372036854775807) (hm : 0 < many) (hm' : many ≤ 9223372036854775807) :
    Calls Tryz.prog 24 #[.int .i64 n, .int .i64 many] w fun e w' => e = .returned (.int .i64 (pick n many)) ∧ w' = w := by
  unfold pick
  by_cases h : n < 0
  · rw [if_pos h]
    go_enter Tryz.func24, Tryz.ntmps24
    go_wp2
    go_ret
    exact ⟨ret_int (by rw [← Int.neg_tmod, Int.tmod_eq_emod_of_nonneg (by omega)]), rfl⟩
  · rw [if_neg h]
    have h' : 0 ≤ n := by omega
    go_enter Tryz.func24, Tryz.ntmps24
    go_wp2
    go_ret
    exact ⟨rfl, rfl⟩
end Go.Proofs.YtahoagbaadnihabGreatDoor
