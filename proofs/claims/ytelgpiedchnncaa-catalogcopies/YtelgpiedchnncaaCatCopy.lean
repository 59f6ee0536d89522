/- What the program's catalog.Copy answers: the same catalog in memory of its own. -/
import Derived.Test.YtelgpiedchnncaaCatRow
import Derived.Test.YtelgpiedchnncaaCatBox
import Derived.Test.YtelgpiedchnncaaDevCopy
namespace Go.Proofs.Ytelgpiedchnncaa
open Go.RowKit Go.Lib

theorem info_blk : (Try.prog.info? 46).map (fun i => (i.zero, i.size, i.bytes)) = some (some (.agg #[.int .i64 0, .int .i64 0]), 2, 16) := by kernel_rfl
theorem info_ent : (Try.prog.info? 35).map (fun i => (i.zero, i.size, i.bytes)) = some (some (.agg #[.string ⟨#[]⟩, .int .i64 0, .int .i64 0, .int .i64 0]), 4, 40) := by kernel_rfl

theorem bk_rep (n i : Nat) : bk (List.replicate n nilB) i = nilB := by
  by_cases h : i < n
  · simp [bk, h]
  · simp [bk, h]
theorem en_rep (n i : Nat) : en (List.replicate n nilE) i = nilE := by
  by_cases h : i < n
  · simp [en, h]
  · simp [en, h]
theorem made_blk (n : Nat) : (madeCells (Value.agg #[.int .i64 0, .int .i64 0]).cells (n * 2)).toList = blkV (List.replicate n nilB) := by
  apply List.ext_getElem?
  intro j
  by_cases h : j < n * 2
  · obtain ⟨a0, a1⟩ := blkV_at (List.replicate n nilB) (j / 2) (by simp; omega)
    rw [bk_rep] at a0 a1
    have e : (madeCells (Value.agg #[.int .i64 0, .int .i64 0]).cells (n * 2)).toList[j]? = some ((#[Value.int .i64 0, Value.int .i64 0])[j % 2]!) := by
      simp [madeCells, Value.cells, h]
    rw [e]
    rcases Nat.mod_two_eq_zero_or_one j with q | q
    · rw [q]
      have e2 : j = j / 2 * 2 := by omega
      rw [← e2] at a0
      rw [a0]; rfl
    · rw [q]
      have e2 : j = j / 2 * 2 + 1 := by omega
      rw [← e2] at a1
      rw [a1]; rfl
  · rw [List.getElem?_eq_none (by simp [madeCells]; omega), List.getElem?_eq_none (by rw [blkV_len]; simp; omega)]
theorem made_ent (n : Nat) : (madeCells (Value.agg #[.string ⟨#[]⟩, .int .i64 0, .int .i64 0, .int .i64 0]).cells (n * 4)).toList = entV (List.replicate n nilE) := by
  apply List.ext_getElem?
  intro j
  by_cases h : j < n * 4
  · obtain ⟨a0, a1, a2, a3⟩ := entV_at (List.replicate n nilE) (j / 4) (by simp; omega)
    rw [en_rep] at a0 a1 a2 a3
    have e : (madeCells (Value.agg #[.string ⟨#[]⟩, .int .i64 0, .int .i64 0, .int .i64 0]).cells (n * 4)).toList[j]? = some ((#[Value.string ⟨#[]⟩, Value.int .i64 0, Value.int .i64 0, Value.int .i64 0])[j % 4]!) := by
      simp [madeCells, Value.cells, h]
    rw [e]
    have q : j % 4 = 0 ∨ j % 4 = 1 ∨ j % 4 = 2 ∨ j % 4 = 3 := by omega
    rcases q with q | q | q | q
    · rw [q]
      have e2 : j = j / 4 * 4 := by omega
      rw [← e2] at a0
      rw [a0]; rfl
    · rw [q]
      have e2 : j = j / 4 * 4 + 1 := by omega
      rw [← e2] at a1
      rw [a1]; rfl
    · rw [q]
      have e2 : j = j / 4 * 4 + 2 := by omega
      rw [← e2] at a2
      rw [a2]; rfl
    · rw [q]
      have e2 : j = j / 4 * 4 + 3 := by omega
      rw [← e2] at a3
      rw [a3]; rfl
  · rw [List.getElem?_eq_none (by simp [madeCells]; omega), List.getElem?_eq_none (by rw [entV_len]; simp; omega)]
theorem run_make_blk (n : Nat) (hn : 16 * n ≤ 281474976710656) : ∃ M : Array Value, M.toList = blkV (List.replicate n nilB) ∧
    ∀ w, (Instr.makeSlice 23 (.int .i64 (n : Int)) (.int .i64 (n : Int))).run Try.prog w = .ok (.slice (some ⟨w.heap.size, 0, none⟩) n n) (w.alloc (.cells M 46)) := by
  obtain ⟨i0, hi, hz0, hz1, hz2⟩ := info_parts info_blk
  refine ⟨_, made_blk n, fun w => ?_⟩
  have h := run_make (P := Try.prog) w 23 46 i0 _ Try.underlying23 hi hz0 .i64 .i64 (n : Int) (n : Int) (by omega) (by omega) (by rw [hz2]; omega) (by omega)
  rw [hz1] at h
  simp only [Int.toNat_natCast] at h
  exact h
theorem run_make_ent (n : Nat) (hn : 40 * n ≤ 281474976710656) : ∃ M : Array Value, M.toList = entV (List.replicate n nilE) ∧
    ∀ w, (Instr.makeSlice 24 (.int .i64 (n : Int)) (.int .i64 (n : Int))).run Try.prog w = .ok (.slice (some ⟨w.heap.size, 0, none⟩) n n) (w.alloc (.cells M 35)) := by
  obtain ⟨i0, hi, hz0, hz1, hz2⟩ := info_parts info_ent
  refine ⟨_, made_ent n, fun w => ?_⟩
  have h := run_make (P := Try.prog) w 24 35 i0 _ Try.underlying24 hi hz0 .i64 .i64 (n : Int) (n : Int) (by omega) (by omega) (by rw [hz2]; omega) (by omega)
  rw [hz1] at h
  simp only [Int.toNat_natCast] at h
  exact h

theorem copy_blks (w : World) (b n c ty : Nat) (a : Option Addr) (V : List Value) (L : List Bk) (ho : Own w b 46 V) (hV : V.length = n * 2) (hr : BlkAt w a n L) :
    ∃ w', (Builtin.copy_ #[23, 23] ty #[.slice (some ⟨b, 0, none⟩) n n, .slice a n c]).run Try.prog w = .ok (goInt n) w' ∧ Own w' b 46 (blkV L) ∧ But b w w' := by
  obtain ⟨R, hR⟩ := ho
  by_cases h0 : n = 0
  · subst h0
    obtain rfl : L = [] := List.eq_nil_of_length_eq_zero hr.sn.symm
    obtain rfl : V = [] := List.eq_nil_of_length_eq_zero hV
    refine ⟨w, ?_, ⟨R, hR⟩, ⟨rfl, rfl, rfl, rfl, fun _ _ => rfl⟩⟩
    obtain ⟨i0, hi, _, hz1, _⟩ := info_parts info_blk
    cases a with
    | none => simp [Builtin.copy_, run_underlying Try.underlying23, Builtin.lenOf, Builtin.firstCells, sizeOf, typeInfo, hi, storeCells]
    | some a => simp [Builtin.copy_, run_underlying Try.underlying23, Builtin.lenOf, Builtin.firstCells, sizeOf, typeInfo, hi, storeCells, loadCells, loadCellsFrom]
  · obtain ⟨p, o, rfl, hp, _⟩ := hr.c 0 (by omega)
    have hl : (blkV L).length = n * 2 := by rw [blkV_len, hr.sn]
    have := run_copy_rows (P := Try.prog) w 23 23 ty 46 2 b n n ⟨p, o, none⟩ c (V ++ R).toArray 46 (blkV L) Try.underlying23 (by kernel_rfl) hR hl hr.row (by simp; omega) (oneCell_blk L)
    refine ⟨_, this, ⟨R, ?_⟩, ⟨rfl, rfl, rfl, by simp [World.setRow], fun k hk => setRow_other _ _ _ _ hk⟩⟩
    rw [setRow_heap w b _ _ 46 (0, 0) hR]
    simp [hl, ← hV]

/-- While it copies: the boxes of both catalogs, the two new rows. -/
structure CopyJ (w0 : World) (B : Nat) (d1 d2 : Value) (p b b' n m : Nat) (V V' : List Value) (w : World) : Prop where
  box : Own w B 26 [d1, d2]
  res : Own w (B + 1) 26 [.slice none 0 0, .slice none 0 0]
  cbox : Own w p 26 [.slice (some ⟨b, 0, none⟩) n n, .slice (some ⟨b', 0, none⟩) m m]
  s : Own w b 46 V
  l : Own w b' 35 V'
  ge : B + 2 ≤ p ∧ B + 2 ≤ b ∧ B + 2 ≤ b'
  ne : p ≠ b ∧ p ≠ b' ∧ b ≠ b'
  below : Below B w0 w
section
variable {w0 w w' : World} {B p b b' n m : Nat} {d1 d2 : Value} {V V' : List Value}
theorem CopyJ.drew (h : CopyJ w0 B d1 d2 p b b' n m V V' w) : CopyJ w0 B d1 d2 p b b' n m V V' w.drew := ⟨h.box.drew, h.res.drew, h.cbox.drew, h.s.drew, h.l.drew, h.ge, h.ne, h.below.drew⟩
theorem CopyJ.to (h : CopyJ w0 B d1 d2 p b b' n m V V' w) (g : Below w.heap.size w w') : CopyJ w0 B d1 d2 p b b' n m V V' w' :=
  ⟨h.box.below' g, h.res.below' g, h.cbox.below' g, h.s.below' g, h.l.below' g, h.ge, h.ne, h.below.trans (g.mono (Nat.le_of_lt h.box.lt))⟩
theorem CopyJ.set (h : CopyJ w0 B d1 d2 p b b' n m V V' w) {k : Nat} (hk : k < V'.length) (v : Value) : CopyJ w0 B d1 d2 p b b' n m V (V'.set k v) (w.setCell ⟨b', k, none⟩ v) := by
  obtain ⟨g1, g2, g3⟩ := h.ge
  obtain ⟨n1, n2, n3⟩ := h.ne
  exact ⟨h.box.other (by show B ≠ b'; omega) v, h.res.other (by show B + 1 ≠ b'; omega) v, h.cbox.other (by show p ≠ b'; omega) v, h.s.other (by show b ≠ b'; omega) v, h.l.set hk v, h.ge, h.ne, h.below.setCell (by show B ≤ b'; omega) v⟩
theorem CopyJ.but (h : CopyJ w0 B d1 d2 p b b' n m V V' w) {U : List Value} (ho : Own w' b 46 U) (hb : But b w w') : CopyJ w0 B d1 d2 p b b' n m U V' w' := by
  obtain ⟨g1, g2, g3⟩ := h.ge
  obtain ⟨n1, n2, n3⟩ := h.ne
  exact ⟨h.box.of_block (hb.block _ (by omega)), h.res.of_block (hb.block _ (by omega)), h.cbox.of_block (hb.block _ (by omega)), ho, h.l.of_block (hb.block _ (by omega)), h.ge, h.ne, h.below.trans (hb.below (by omega))⟩
end

/-- How far the entries are copied. -/
def halfE (E : List En) (k : Nat) : List En := E.take k ++ List.replicate (E.length - k) nilE
theorem halfE_len (E : List En) (k : Nat) (h : k ≤ E.length) : (halfE E k).length = E.length := by simp [halfE]; omega
theorem halfE_set (E : List En) (k : Nat) (h : k < E.length) : (halfE E k).set k (en E k) = halfE E (k + 1) := by
  unfold halfE
  rw [List.set_append_right _ _ (by simp; omega), show E.length - k = (E.length - (k + 1)) + 1 by omega, List.replicate_succ]
  have e : k - (List.take k E).length = 0 := by simp; omega
  rw [e, List.set_cons_zero, en_take E k h, List.append_assoc]
  rfl
theorem halfE_all (E : List En) : halfE E E.length = E := by simp [halfE]
theorem halfE_none (E : List En) : halfE E 0 = List.replicate E.length nilE := by simp [halfE]
theorem entV_set (M : List En) (k : Nat) (h : k < M.length) (x : En) : ((((entV M).set (k * 4) (.string x.s)).set (k * 4 + 1) (.int .i64 x.b)).set (k * 4 + 2) (.int .i64 x.a)).set (k * 4 + 3) (.int .i64 x.n) = entV (M.set k x) := by
  induction M generalizing k with
  | nil => simp at h
  | cons y M ih =>
    cases k with
    | zero => rfl
    | succ k =>
      rw [List.set_cons_succ, entV_cons, entV_cons, ← ih k (by simpa using h), show (k + 1) * 4 = k * 4 + 1 + 1 + 1 + 1 by omega]
      rfl
theorem CopyJ.step {w0 w : World} {B p b b' n m : Nat} {d1 d2 : Value} {V : List Value} {E : List En} {k : Nat} (h : CopyJ w0 B d1 d2 p b b' n m V (entV (halfE E k)) w) (hk : k < E.length) :
    CopyJ w0 B d1 d2 p b b' n m V (entV (halfE E (k + 1))) ((((w.setCell ⟨b', k * 4, none⟩ (.string (en E k).s)).setCell ⟨b', k * 4 + 1, none⟩ (.int .i64 (en E k).b)).setCell ⟨b', k * 4 + 2, none⟩ (.int .i64 (en E k).a)).setCell ⟨b', k * 4 + 3, none⟩ (.int .i64 (en E k).n)) := by
  have hl : (entV (halfE E k)).length = E.length * 4 := by rw [entV_len, halfE_len E k (by omega)]
  have h1 := h.set (k := k * 4) (by omega) (.string (en E k).s)
  have h2 := h1.set (k := k * 4 + 1) (by rw [List.length_set]; omega) (.int .i64 (en E k).b)
  have h3 := h2.set (k := k * 4 + 2) (by rw [List.length_set, List.length_set]; omega) (.int .i64 (en E k).a)
  have h4 := h3.set (k := k * 4 + 3) (by rw [List.length_set, List.length_set, List.length_set]; omega) (.int .i64 (en E k).n)
  rw [entV_set _ k (by rw [halfE_len E k (by omega)]; exact hk), halfE_set E k hk] at h4
  exact h4

/-- In whatever order the three blocks are laid. -/
theorem copyJ_start {W w0 : World} {B n m p b b' : Nat} {d1 d2 : Value} {E : List En} {M1 M2 : Array Value} (hM1 : M1.toList = blkV (List.replicate n nilB)) (hM2 : M2.toList = entV (List.replicate m nilE)) (hm : m = E.length) (hB : Below B w0 W) (_hs : W.heap.size = B + 2) (h1 : Own W B 26 [d1, d2]) (h2 : Own W (B + 1) 26 [.slice none 0 0, .slice none 0 0])
    {w' : World} (hb : Below (B + 2) W w') (hg : B + 2 ≤ p ∧ B + 2 ≤ b ∧ B + 2 ≤ b') (hne : p ≠ b ∧ p ≠ b' ∧ b ≠ b')
    (hp : w'.heap[p]? = some (.cells #[.slice (some ⟨b, 0, none⟩) n n, .slice (some ⟨b', 0, none⟩) m m] 26 (0, 0)))
    (hbs : w'.heap[b]? = some (.cells M1 46 (0, 0))) (hbl : w'.heap[b']? = some (.cells M2 35 (0, 0))) :
    CopyJ w0 B d1 d2 p b b' n m (blkV (List.replicate n nilB)) (entV (halfE E 0)) w' := by
  refine ⟨h1.below hb (by omega), h2.below hb (by omega), ⟨[], hp⟩, ⟨[], ?_⟩, ⟨[], ?_⟩, hg, hne, hB.trans (hb.mono (by omega))⟩
  · rw [List.append_nil, ← hM1, Array.toArray_toList]; exact hbs
  · rw [halfE_none, ← hm, List.append_nil, ← hM2, Array.toArray_toList]; exact hbl

set_option maxHeartbeats 1600000 in
set_option maxRecDepth 4000 in
theorem ccopy_any (a : Option Addr) (n c : Nat) (a' : Option Addr) (m c' : Nat) (C : Ct) (w : World) (h : CatAt w a n c a' m C) (hn : 16 * n ≤ 281474976710656) (hm : 40 * m ≤ 281474976710656) (hs : ∀ i, i < m → (en C.2 i).s.size ≤ 281474976710656) :
    Calls Try.prog 13 #[.agg #[.slice a n c, .slice a' m c']] w fun e w' => ∃ b b', e = .returned (.agg #[.slice (some ⟨b, 0, none⟩) n n, .slice (some ⟨b', 0, none⟩) m m]) ∧ w.heap.size ≤ b ∧ w.heap.size ≤ b' ∧ b ≠ b' ∧ Own w' b 46 (blkV C.1) ∧ Own w' b' 35 (entV C.2) ∧ Below w.heap.size w w' := by
  obtain ⟨W, hW⟩ : ∃ W, W = (w.alloc (.cells #[.slice a n c, .slice a' m c'] 26)).alloc (.cells #[.slice none 0 0, .slice none 0 0] 26) := ⟨_, rfl⟩
  have hz : W.heap.size = w.heap.size + 2 := by rw [hW]; simp
  have hB : Below w.heap.size w W := by rw [hW]; go_grown
  have k1 : Own W w.heap.size 26 [.slice a n c, .slice a' m c'] := by rw [hW]; exact (Own.made w 26 [.slice a n c, .slice a' m c']).alloc _
  have k2 : Own W (w.heap.size + 1) 26 [.slice none 0 0, .slice none 0 0] := by
    have := Own.made (w.alloc (.cells #[.slice a n c, .slice a' m c'] 26)) 26 [.slice none 0 0, .slice none 0 0]
    rw [show (w.alloc (.cells #[.slice a n c, .slice a' m c'] 26)).heap.size = w.heap.size + 1 by simp] at this
    rw [hW]; exact this
  have c1 : W.cell? ⟨w.heap.size, 0, none⟩ = some (.slice a n c) := k1.cell rfl
  have c2 : W.cell? ⟨w.heap.size, 1, none⟩ = some (.slice a' m c') := k1.cell rfl
  have HW := hid (And.intro hz (And.intro hB (And.intro k1 (And.intro k2 hW))))
  obtain ⟨M1, hM1, mk1⟩ := run_make_blk n hn
  obtain ⟨M2, hM2, mk2⟩ := run_make_ent m hm
  have HM := hid (And.intro hM1 hM2)
  have HD := hid h
  have HS := hid hs
  have HN := hid (And.intro h.B.sn h.E.sn)
  clear hz hB k1 k2 h hs hM1 hM2
  go_enter Try.func13, Try.ntmps13
  clear hW c1 c2
  go_upto_region 1 with fail
  go_cut [3] (fun s3 wx => ∃ p b b', s3 = .pointer (some ⟨p, 0, none⟩) ∧ CopyJ w w.heap.size (.slice a n c) (.slice a' m c') p b b' n m (blkV (List.replicate n nilB)) (entV (halfE C.2 0)) wx)
  case first =>
    go_region
    all_goals (go_wp2_with fail; go_meet)
    all_goals (obtain ⟨hz, hB, k1, k2, hW⟩ := HW.out; rw [← hW]; apply Exists.intro; apply Exists.intro; apply Exists.intro; refine ⟨rfl, ?_⟩; apply copyJ_start HM.out.1 HM.out.2 HN.out.2 hB hz k1 k2 (three W w.heap.size hz _ _ _).2.2.2; (case hp => (first | exact (three W w.heap.size hz _ _ _).1 | exact (three W w.heap.size hz _ _ _).2.1 | exact (three W w.heap.size hz _ _ _).2.2.1)); (case hbs => (first | exact (three W w.heap.size hz _ _ _).1 | exact (three W w.heap.size hz _ _ _).2.1 | exact (three W w.heap.size hz _ _ _).2.2.1)); (case hbl => (first | exact (three W w.heap.size hz _ _ _).1 | exact (three W w.heap.size hz _ _ _).2.1 | exact (three W w.heap.size hz _ _ _).2.2.1)); (case hg => omega); (case hne => omega))
  case rest =>
    obtain ⟨p, b, b', rfl, hI⟩ := hcut
    clear HW mk1 mk2 HM
    obtain ⟨w6, hcp, ho6, hb6⟩ := copy_blks wc b n c 3 a _ C.1 hI.s (by rw [blkV_len, List.length_replicate]) (HD.out.below hI.below).B
    have hI6 := hI.but ho6 hb6
    have c1 := hI.box.cell (i := 0) rfl
    have c3 := hI.cbox.cell (i := 0) rfl
    have d2 := hI6.box.cell (i := 1) rfl
    have HI := hid hI6
    clear hI ho6 hb6 hI6
    go_wp2_with fail
    clear c1 c3 d2 hcp
    go_loopw [23] (fun i wr => ∃ k : Nat, k ≤ m ∧ i = .int .i64 k ∧ CopyJ w w.heap.size (.slice a n c) (.slice a' m c') p b b' n m (blkV C.1) (entV (halfE C.2 k)) wr) (fun i _ => m - (RowKit.intOf i).toNat)
    case atStart => exact ⟨0, Nat.zero_le _, rfl, HI.out⟩
    case round =>
      obtain ⟨k, hk, rfl, hI⟩ := hrel
      clear HI
      by_cases hlt : k < m
      · have hlt' : (k : Int) < m := by omega
        obtain ⟨q, o, rfl, hq, x0, x1, x2, x3⟩ := (HD.out.below hI.below).E.c k hlt
        have hS : k < C.2.length := by rw [← HN.out.2]; exact hlt
        have HC := hid (fun wx => copyentry_any (en C.2 k) wx (HS.out k hlt))
        have ST := hid (fun wx (h : CopyJ w w.heap.size (.slice a n c) (.slice (some ⟨q, o, none⟩) m c') p b b' n m (blkV C.1) (entV (halfE C.2 k)) wx) => h.step hS)
        obtain ⟨W5, hW5⟩ : ∃ W5, W5 = wr.alloc (.cells #[.string (en C.2 k).s, .int .i64 (en C.2 k).b, .int .i64 (en C.2 k).a, .int .i64 (en C.2 k).n] 35) := ⟨_, rfl⟩
        have e4 : Box4 W5 wr.heap.size (.string (en C.2 k).s) (.int .i64 (en C.2 k).b) (.int .i64 (en C.2 k).a) (.int .i64 (en C.2 k).n) := by rw [hW5]; exact box4_of (Own.made wr 35 [.string (en C.2 k).s, .int .i64 (en C.2 k).b, .int .i64 (en C.2 k).a, .int .i64 (en C.2 k).n])
        have hI5 : CopyJ w w.heap.size (.slice a n c) (.slice (some ⟨q, o, none⟩) m c') p b b' n m (blkV C.1) (entV (halfE C.2 k)) W5 := by rw [hW5]; exact hI.to ((Below.refl _ wr).alloc (Nat.le_refl _) _)
        obtain ⟨z0, z1, z2, z3⟩ := entV_at (halfE C.2 k) k (by rw [halfE_len C.2 k (by omega)]; exact hS)
        have HZ := hid (And.intro z0 (And.intro z1 (And.intro z2 z3)))
        have HI5 := hid hI5
        generalize en C.2 k = x at x0 x1 x2 x3 HC ST hW5 e4
        generalize en (halfE C.2 k) k = x' at HZ
        have cb := hI5.cbox.cell (i := 1) rfl
        obtain ⟨s0, s1, s2, s3, _, _, _, _, _⟩ := e4
        clear hI hI5 z0 z1 z2 z3
        go_upto_region 6 with fail
        rw [← hW5]
        clear hW5 x0 x1 x2 x3
        go_region_with (go_at_call 26; refine (HC.out _).mono ?_; rintro _ w7 ⟨rfl, g7⟩; (have HI7 := hid (HI5.out.drew.to g7)); (have cb7 := HI7.out.cbox.cell (i := 1) rfl); (have v0 := HI7.out.l.cell HZ.out.1); (have v1 := HI7.out.l.cell HZ.out.2.1); (have v2 := HI7.out.l.cell HZ.out.2.2.1); (have v3 := HI7.out.l.cell HZ.out.2.2.2); (have fz := HI7.out.l.free))
        all_goals clear cb s0 s1 s2 s3 cb7 v0 v1 v2 v3 fz
        all_goals go_wp2
        all_goals go_roundw
        all_goals (first | (case rel => exact ⟨k + 1, by omega, by go_num, ST.out _ HI7.out⟩) | skip)
        all_goals (simp [RowKit.intOf]; omega)
      · obtain rfl : k = m := by omega
        have hnl : ¬ (k : Int) < k := by omega
        have e0 := hI.cbox.cell (i := 0) rfl
        have e1 := hI.cbox.cell (i := 1) rfl
        have r0 := hI.res.cell (i := 0) rfl
        have r1 := hI.res.cell (i := 1) rfl
        have f0 := hI.res.free 0
        have f1 := hI.res.free 1
        have HI6 := hid hI
        clear hI
        obtain ⟨y0, y1⟩ := ret_box (.slice (some ⟨b, 0, none⟩) n n) (.slice (some ⟨b', 0, none⟩) k k) r0 r1
        go_wp2
        refine bodyPost_ret (v := .agg #[.slice (some ⟨b, 0, none⟩) n n, .slice (some ⟨b', 0, none⟩) k k]) (by simp [results, Try.results13, go_sem, y0, y1]) rfl ?_
        obtain ⟨g1, g2, g3⟩ := HI6.out.ge
        obtain ⟨n1, n2, n3⟩ := HI6.out.ne
        refine ⟨b, b', rfl, by omega, by omega, n3, (HI6.out.s.other (by show b ≠ w.heap.size + 1; omega) _).other (by show b ≠ w.heap.size + 1; omega) _, ?_, (HI6.out.below.setCell (by show w.heap.size ≤ w.heap.size + 1; omega) _).setCell (by show w.heap.size ≤ w.heap.size + 1; omega) _⟩
        have := (HI6.out.l.other (p := ⟨w.heap.size + 1, 0, none⟩) (by show b' ≠ w.heap.size + 1; omega) (.slice (some ⟨b, 0, none⟩) n n)).other (p := ⟨w.heap.size + 1, 1, none⟩) (by show b' ≠ w.heap.size + 1; omega) (.slice (some ⟨b', 0, none⟩) k k)
        rw [show halfE C.2 k = C.2 by rw [HN.out.2]; exact halfE_all C.2] at this
        exact this
end Go.Proofs.Ytelgpiedchnncaa
