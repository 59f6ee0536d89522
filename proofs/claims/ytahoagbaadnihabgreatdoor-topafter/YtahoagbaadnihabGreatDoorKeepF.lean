/- Joined texts: ArcRefCopy, ArcIns, ArcFilCp, KeepFiles. -/
import Derived.Test.YtahoagbaadnihabGreatDoorArcAX
import Derived.Handy
import Derived.Deep.RegionLaw
import Derived.BigRegion
import Derived.Deep.Onto
import Derived.Test.YtahoagbaadnihabGreatDoorFilB
import Derived.Test.YtahoagbaadnihabGreatDoorKeepData
import Derived.Test.YtahoagbaadnihabGreatDoorArcM
import Derived.Test.YtahoagbaadnihabGreatDoorStraight
/- What the document's own CatalogCopy answers: the same catalog in rows of its own. -/
namespace Go.Proofs.YtahoagbaadnihabGreatDoor
open Go.RowKit Go.Lib

theorem BlkAt.rows {w : World} {a : Option Addr} {n : Nat} {L : List Bk} (h : BlkAt w a n L) : (a = none → n = 0) ∧ ∀ ad, a = some ad → ∀ j u, (blkV L)[j]? = some u → w.cell? (ad.add j) = some u := by
  refine ⟨fun e => ?_, fun ad e j u hj => ?_⟩
  · rcases Nat.eq_zero_or_pos n with q | q
    · exact q
    · obtain ⟨b, o, e', _⟩ := h.c 0 q
      rw [e] at e'; cases e'
  · obtain ⟨i, hi, _⟩ := blkV_inv L j u hj
    obtain ⟨b, o, e', _⟩ := h.c i (by rw [h.sn]; exact hi)
    rw [e] at e'
    cases e'
    subst e
    exact h.row j u hj
theorem EntAt.rows {w : World} {a : Option Addr} {n : Nat} {L : List En} (h : EntAt w a n L) : (a = none → n = 0) ∧ ∀ ad, a = some ad → ∀ j u, (entV L)[j]? = some u → w.cell? (ad.add j) = some u := by
  refine ⟨fun e => ?_, fun ad e j u hj => ?_⟩
  · rcases Nat.eq_zero_or_pos n with q | q
    · exact q
    · obtain ⟨b, o, e', _⟩ := h.c 0 q
      rw [e] at e'; cases e'
  · obtain ⟨i, hi, _⟩ := entV_inv L j u hj
    obtain ⟨b, o, e', _⟩ := h.c i (by rw [h.sn]; exact hi)
    rw [e] at e'
    cases e'
    subst e
    exact h.row j u hj
end Go.Proofs.YtahoagbaadnihabGreatDoor

/- While entries are put into a copy of a catalog: what stands where; what the next list has. -/
namespace Go.Proofs.YtahoagbaadnihabGreatDoor
open Go.RowKit Go.Lib

section
variable {w w' : World}
theorem row_to {base e s n : Nat} {v : Value} {xs : List Value} (h : w.ownsRow base e s v n xs) (g : Below w.heap.size w w') : w'.ownsRow base e s v n xs := (chg_below (fun _ => False) g).row h (fun _ _ q => q)

variable {wc : World} {p8 : Nat} {vK vE : Value} {K : List Bk} {E : List En}
variable {p11 : Nat} {x : En} {v v' : Value} {N N' : List En}
end
end Go.Proofs.YtahoagbaadnihabGreatDoor

/- A list of files, put behind nothing by append: where the copy stands. -/
namespace Go.Proofs.YtahoagbaadnihabGreatDoor
open Go.RowKit Go.Lib

theorem info_fil : (Tryz.prog.info? 52).map (fun i => (i.zero, i.size, i.bytes)) = some (some (.agg #[.string ⟨#[]⟩, .string ⟨#[]⟩]), 2, 32) := by kernel_rfl
def filC (x : Fi) : List Value := [.string x.s, .string x.d]
def filV (F : List Fi) : List Value := F.flatMap filC
theorem filV_cons (x : Fi) (F : List Fi) : filV (x :: F) = .string x.s :: .string x.d :: filV F := rfl
theorem filV_len (F : List Fi) : (filV F).length = F.length * 2 := by
  induction F with
  | nil => rfl
  | cons x F ih => rw [filV_cons]; simp only [List.length_cons, ih]; omega
theorem fi_succ (x : Fi) (F : List Fi) (i : Nat) : fi (x :: F) (i + 1) = fi F i := by simp [fi]
theorem filV_at (F : List Fi) (i : Nat) (h : i < F.length) : (filV F)[i * 2]? = some (.string (fi F i).s) ∧ (filV F)[i * 2 + 1]? = some (.string (fi F i).d) := by
  induction F generalizing i with
  | nil => simp at h
  | cons x F ih =>
    rw [filV_cons]
    cases i with
    | zero => exact ⟨rfl, rfl⟩
    | succ i =>
      rw [fi_succ, show (i + 1) * 2 = i * 2 + 1 + 1 by omega]
      simp only [List.getElem?_cons_succ]
      exact ih i (by simpa using h)
theorem filV_inv (F : List Fi) (j : Nat) (v : Value) (h : (filV F)[j]? = some v) : ∃ i, i < F.length ∧ ((j = i * 2 ∧ v = .string (fi F i).s) ∨ (j = i * 2 + 1 ∧ v = .string (fi F i).d)) := by
  have hj : j < F.length * 2 := by
    rcases Nat.lt_or_ge j (F.length * 2) with h1 | h1
    · exact h1
    · rw [List.getElem?_eq_none (by rw [filV_len]; exact h1)] at h; cases h
  obtain ⟨a0, a1⟩ := filV_at F (j / 2) (by omega)
  refine ⟨j / 2, by omega, ?_⟩
  rcases Nat.mod_two_eq_zero_or_one j with e | e
  · left
    have e2 : j = j / 2 * 2 := by omega
    rw [← e2, h] at a0
    exact ⟨e2, Option.some.inj a0⟩
  · right
    have e2 : j = j / 2 * 2 + 1 := by omega
    rw [← e2, h] at a1
    exact ⟨e2, Option.some.inj a1⟩
theorem oneCell_fils (F : List Fi) : ∀ v ∈ filV F, v.oneCell' = true := by
  intro v hv
  obtain ⟨j, hj⟩ := List.getElem?_of_mem hv
  obtain ⟨i, _, ⟨_, rfl⟩ | ⟨_, rfl⟩⟩ := filV_inv F j v hj <;> rfl
theorem FilAt.rows {w : World} {a : Option Addr} {n : Nat} {F : List Fi} (h : FilAt w a n F) : (a = none → n = 0) ∧ ∀ ad, a = some ad → ∀ j u, (filV F)[j]? = some u → w.cell? (ad.add j) = some u := by
  refine ⟨fun e => ?_, fun ad e j u hj => ?_⟩
  · rcases Nat.eq_zero_or_pos n with q | q
    · exact q
    · obtain ⟨b, o, e', _⟩ := h.c 0 q
      rw [e] at e'; cases e'
  · obtain ⟨i, hi, q⟩ := filV_inv F j u hj
    obtain ⟨b, o, e', _, c0, c1⟩ := h.c i (by rw [h.sn]; exact hi)
    rw [e] at e'
    cases e'
    rw [Addr.add_lit]
    rcases q with ⟨rfl, rfl⟩ | ⟨rfl, rfl⟩
    · exact c0
    · rw [← Nat.add_assoc]; exact c1
end Go.Proofs.YtahoagbaadnihabGreatDoor

/- What Files answers: files of raw things, with names of their own. -/
namespace Go.Proofs.YtahoagbaadnihabGreatDoor
open Go.RowKit Go.Lib

theorem filV_app (F G : List Fi) : filV (F ++ G) = filV F ++ filV G := List.flatMap_append
theorem fil_name (j : Nat) (h : j < 10) : (⟨#[102]⟩ : ByteArray) ++ ⟨(decDigits j).toArray⟩ = fName j := by
  rw [decDigits_one h]
  show str [102] ++ str [UInt8.ofNat (48 + j)] = _
  rw [str_app, fName, byt, Int.toNat_natCast]
  rfl
theorem RawsAt.at {w : World} {a : Option Addr} {n : Nat} {R : List Raw4} (H : RawsAt w a n R) (k : Nat) (hk : k < n) : ∃ b o, a = some ⟨b, o, none⟩ ∧ b < w.heap.size ∧ (i64Ok (raw R k).kind ∧ i64Ok (raw R k).a ∧ i64Ok (raw R k).b ∧ i64Ok (raw R k).c) ∧ w.cell? ⟨b, o + k * 4, none⟩ = some (.int .i64 (raw R k).kind) ∧ w.cell? ⟨b, o + k * 4 + 1, none⟩ = some (.int .i64 (raw R k).a) ∧ w.cell? ⟨b, o + k * 4 + 2, none⟩ = some (.int .i64 (raw R k).b) ∧ w.cell? ⟨b, o + k * 4 + 3, none⟩ = some (.int .i64 (raw R k).c) := by
  rcases H with ⟨h1, _⟩ | ⟨b, o, e, H⟩
  · omega
  · exact ⟨b, o, e, H.lt, H.ok k hk, H.c0 k hk, H.c1 k hk, H.c2 k hk, H.c3 k hk⟩

/-- While files are laid one behind the other. -/
structure FlsI (w0 : World) (first : Nat) (v : Value) (F : List Fi) (w : World) : Prop where
  row : w.ownsRow w0.heap.size 52 2 v F.length (filV F)
  nam : Named F first
  below : Below w0.heap.size w0 w
section
variable {w0 w w' : World} {first : Nat} {v v' : Value} {F : List Fi}
theorem FlsI.to (h : FlsI w0 first v F w) (g : Below w.heap.size w w') : FlsI w0 first v F w' := ⟨row_to h.row g, h.nam, h.below.trans (g.mono h.below.size)⟩
theorem named_snoc (h : Named F first) (x : Fi) (hx : x.s = fName (first + F.length) ∧ x.d.size ≤ 200) : Named (F ++ [x]) first := by
  intro i hi
  rw [List.length_append, List.length_singleton] at hi
  by_cases e : i = F.length
  · subst e
    rw [show fi (F ++ [x]) F.length = x by simp [fi]]
    exact hx
  · rw [show fi (F ++ [x]) i = fi F i by simp [fi, List.getElem?_append_left (show i < F.length by omega)]]
    exact h i (by omega)
theorem FlsI.app (h : FlsI w0 first v F w) (x : Fi) (hx : x.s = fName (first + F.length) ∧ x.d.size ≤ 200) (ho : w'.ownsRow w0.heap.size 52 2 v' (F ++ [x]).length (filV (F ++ [x]))) (g : w.grownBy w' v.ownBlock) : FlsI w0 first v' (F ++ [x]) w' :=
  ⟨ho, named_snoc h.nam x hx, h.below.grown g h.below.size (fun q hq => (World.ownsRow.lt h.row q hq).1)⟩
end
/-- append of one file onto a row of the call's own, as one step of a region that draws its order. -/
theorem step_appendF {ops : Array Oper} {o : Oper} {a : Act} {w : World} {K : Act → World → Prop} {Q : Exit → Act → World → Prop} {Z : Prop}
    (hg : o.guard = none) (sl x : Operand) (hop : o.op = Op.call { callee := Callee.builtin Builtin.append, args := #[sl, x], argTypes := #[24, 24] })
    (base : Nat) (v : Value) (F : List Fi) (hs : a.eval sl = v) (hown : w.ownsRow base 52 2 v F.length (filV F)) (ad : Addr) (c : Nat) (b : Fi) (hx : a.eval x = .slice (some ad) 1 c) (hnews : ∀ j u, (filV [b])[j]? = some u → w.cell? (ad.add j) = some u)
    (hbd : F.length ≤ 100000) (hbase : base ≤ w.heap.size)
    (hK : ∀ g m cap w', Hid (m = (F ++ [b]).length) → w'.ownsRow base 52 2 (.slice (some ⟨g, 0, none⟩) m cap) (F ++ [b]).length (filV (F ++ [b])) → w.grownBy w' v.ownBlock → K (a.put o.dst (.slice (some ⟨g, 0, none⟩) m cap)) w') :
    if Region.wanted o (yielded ops a.tmps) = true then Oper.wp Tryz.prog o a w K Q else Z := by
  obtain ⟨i0, hi, hz0, hz1, hz2⟩ := info_parts info_fil
  have hw : Region.wanted o (yielded ops a.tmps) = true := by simp [Region.wanted, hg]
  rw [if_pos hw]
  obtain ⟨v', w', hrun, r1, r2, _⟩ := run_append_own (P := Tryz.prog) w base 24 o.type 52 i0 _ 2 32 Tryz.underlying24 hi hz0 hz1 hz2 rfl (by decide) v F.length (filV F) hown ad 1 c (filV [b]) rfl hnews (oneCell_fils [b]) (by unfold maxLen; omega) (by omega) hbase
  unfold Oper.wp
  simp [execOp, hop, resolve, invoke, builtin, hs, hx, hrun, Result.andThen]
  have r1' : w'.ownsRow base 52 2 v' (F ++ [b]).length (filV (F ++ [b])) := by rw [filV_app, List.length_append]; exact r1
  obtain ⟨g, cap, rfl, _⟩ := owns_form r1' (by simp)
  exact hK g _ cap w' rfl r1' r2
theorem new_fil (w : World) (b : Fi) (t : TypeId) : ∀ j u, (filV [b])[j]? = some u → (w.alloc (.cells #[.string b.s, .string b.d] t)).cell? ((⟨w.heap.size, 0, none⟩ : Addr).add j) = some u := by
  intro j u h
  have ho := Own.made w t [.string b.s, .string b.d]
  rw [Addr.add_lit, Nat.zero_add]
  exact ho.cell h
theorem filAt_row {w : World} {base n c : Nat} {a : Option Addr} {F : List Fi} (h : w.ownsRow base 52 2 (.slice a n c) F.length (filV F)) (hl : F.length ≤ 1000) (hd : ∀ i, i < F.length → (fi F i).s.size ≤ maxLen ∧ (fi F i).d.size ≤ maxLen) : n = F.length ∧ n ≤ c ∧ FilAt w a n F := by
  rcases h.2 with ⟨h', hn⟩ | ⟨g, cap, cur, h', hb, hg, hnc, hcm, hcs, ht⟩
  · cases h'
    exact ⟨hn.symm, Nat.zero_le _, hn.symm, Nat.zero_le _, fun i hi => absurd hi (Nat.not_lt_zero _), fun i hi => absurd hi (Nat.not_lt_zero _)⟩
  · cases h'
    have ho := (owns_own rfl h).1
    refine ⟨rfl, hnc, rfl, by unfold maxLen; omega, hd, fun i hi => ⟨g, 0, rfl, ho.lt, ?_, ?_⟩⟩
    · rw [Nat.zero_add]; exact ho.cell (filV_at F i hi).1
    · rw [Nat.zero_add]; exact ho.cell (filV_at F i hi).2

/-- A list of files that comes out of a call. -/
def OutFs (w : World) (first N : Nat) (e : Ending) (w' : World) : Prop := ∃ a n c F, e = .returned (.slice a n c) ∧ (n = F.length ∧ n ≤ c ∧ FilAt w' a n F) ∧ (Named F first ∧ F.length = N) ∧ Below w.heap.size w w'
/-- .. in a row that is new. -/
def OutFsN (w : World) (first N : Nat) (e : Ending) (w' : World) : Prop := ∃ a n c F, e = .returned (.slice a n c) ∧ (n = F.length ∧ n ≤ c ∧ FilAt w' a n F) ∧ (Named F first ∧ F.length = N) ∧ NewS w.heap.size a n ∧ Below w.heap.size w w'
theorem OutFsN.out {w w' : World} {first N : Nat} {e : Ending} (h : OutFsN w first N e w') : OutFs w first N e w' := by
  obtain ⟨a, n, c, F, h1, h2, h3, _, h5⟩ := h
  exact ⟨a, n, c, F, h1, h2, h3, h5⟩

set_option maxHeartbeats 3200000 in
set_option maxRecDepth 4000 in
theorem files_new (a : Option Addr) (n c : Nat) (R : List Raw4) (first most : Nat) (w : World) (H : RawsAt w a n R) (hp : Pow w) (hm : first + most ≤ 10) :
    Calls Tryz.prog 22 #[.slice a n c, .int .i64 first, .int .i64 most] w fun e w' => OutFsN w first (min n most) e w' := by
  have hnb := H.nb
  unfold maxLen at hnb
  obtain ⟨N, hN⟩ : ∃ N, min n most = N := ⟨_, rfl⟩
  have hN1 : N ≤ n := by omega
  have hN2 : N ≤ most := by omega
  have HN := hid (show N = n ∨ (N = most ∧ most ≤ n) by omega)
  have HH := hid (And.intro H hp)
  have J0 : Hid (FlsI w first (.slice none 0 0) [] w) := ⟨⟨rfl, .inl ⟨rfl, rfl⟩⟩, fun i hi => absurd hi (Nat.not_lt_zero _), Below.refl _ _⟩
  rw [hN]
  clear H hp hN
  go_enter Tryz.func22, Tryz.ntmps22
  go_wp2_with fail
  go_loopw [7, 8] (fun t i wr => ∃ (k m cap : Nat) (ao : Option Addr) (F : List Fi), k ≤ N ∧ i = .int .i64 k ∧ t = .slice ao m cap ∧ Hid (F.length = k) ∧ Hid (FlsI w first (.slice ao m cap) F wr)) (fun _ i _ => N - (RowKit.intOf i).toNat)
  case atStart => exact ⟨0, 0, 0, none, [], Nat.zero_le _, rfl, rfl, rfl, J0⟩
  case round =>
    obtain ⟨k, m, cap, ao, F, hk, rfl, rfl, HF, HI⟩ := hrel
    clear J0
    by_cases hlt : k < N
    · have hlt' : (k : Int) < n := by omega
      have hlt9 : (k : Int) < most := by omega
      obtain ⟨b, o, rfl, hb, ⟨o1, o2, o3, o4⟩, x0, x1, x2, x3⟩ := HH.out.1.at k (by omega)
      have CC := hid (fun (wx : World) (g : Below w.heap.size w wx) => And.intro ((g.cell (p := ⟨b, o + k * 4, none⟩) hb).trans x0) (And.intro ((g.cell (p := ⟨b, o + k * 4 + 1, none⟩) hb).trans x1) (And.intro ((g.cell (p := ⟨b, o + k * 4 + 2, none⟩) hb).trans x2) ((g.cell (p := ⟨b, o + k * 4 + 3, none⟩) hb).trans x3))))
      have CI := hid (fun wx => Tryz.strconv_Itoa_small (first + k) (by omega) wx)
      rw [show ((first + k : Nat) : Int) = (first : Int) + k by omega] at CI
      have CD := hid (data_any (raw R k) wr.drew o1 o2 o3 o4 (HH.out.2.below (HI.out.below.drew)))
      have u1 : IntKind.i64.wrap ((first : Int) + k) = (first : Int) + k := IntWalk.i64_in _ (by omega)
      have ha : ∀ wx, (Op.stringOp .add ⟨#[102]⟩ ⟨(decDigits (first + k)).toArray⟩).run Tryz.prog wx = .ok (.string (fName (first + k))) wx := fun wx => by
        rw [← fil_name (first + k) (by omega)]
        exact run_string_add_sum wx _ _ (by rw [decDigits_one (by omega)]; show 1 + 1 ≤ _; omega)
      generalize (⟨(decDigits (first + k)).toArray⟩ : ByteArray) = Ys at CI ha
      have HX := hid (show fName (first + k) = fName (first + F.length) by rw [HF.out])
      generalize fName (first + k) = Nm at ha HX
      clear x0 x1 x2 x3 hb o1 o2 o3 o4
      generalize raw R k = r at CC CD
      obtain ⟨r1, r2, r3, r4⟩ := r
      have CC2 := hid (fun (wx : World) (g : Below w.heap.size w wx) => show wx.cell? ⟨b, o + k * 4, none⟩ = some (.int .i64 r1) ∧ wx.cell? ⟨b, o + k * 4 + 1, none⟩ = some (.int .i64 r2) ∧ wx.cell? ⟨b, o + k * 4 + 2, none⟩ = some (.int .i64 r3) ∧ wx.cell? ⟨b, o + k * 4 + 3, none⟩ = some (.int .i64 r4) from CC.out wx g)
      dsimp only at CD
      clear CC
      go_upto_region 5 with fail
      refine wp_region_till (fun w' => w'.cell? ⟨b, o + k * 4, none⟩ = some (.int .i64 r1) ∧ w'.cell? ⟨b, o + k * 4 + 1, none⟩ = some (.int .i64 r2) ∧ w'.cell? ⟨b, o + k * 4 + 2, none⟩ = some (.int .i64 r3) ∧ w'.cell? ⟨b, o + k * 4 + 3, none⟩ = some (.int .i64 r4)) (fun _ => True) 13 (by kernel_rfl) (CC2.out _ HI.out.below.drew) trivial (fun hT => ?_)
      refine wpTill_take (i := 0) (v := ?v0) rfl (by kernel_rfl) (by kernel_rfl) (by kernel_rfl) (fun _ _ _ h => h) (by rfl) ?hy0 hT ?rest0
      case hy0 => (intro w hSw; (try dsimp only at hSw); go_simp; (first | done | with_reducible rfl))
      clear hT; intro hT; try simp only [Act.put, List.setIfInBounds_toArray, List.set_cons_zero, List.set_cons_succ]
      refine wpTill_take (i := 1) (v := ?v1) rfl (by kernel_rfl) (by kernel_rfl) (by kernel_rfl) (fun _ _ _ h => h) (by rfl) ?hy1 hT ?rest1
      case hy1 => (intro w hSw; (try dsimp only at hSw); go_simp; (first | done | with_reducible rfl))
      clear hT; intro hT; try simp only [Act.put, List.setIfInBounds_toArray, List.set_cons_zero, List.set_cons_succ]
      refine wpTill_take (i := 2) (v := ?v2) rfl (by kernel_rfl) (by kernel_rfl) (by kernel_rfl) (fun _ _ _ h => h) (by rfl) ?hy2 hT ?rest2
      case hy2 => (intro w hSw; (try dsimp only at hSw); go_simp; (first | done | with_reducible rfl))
      clear hT; intro hT; try simp only [Act.put, List.setIfInBounds_toArray, List.set_cons_zero, List.set_cons_succ]
      refine wpTill_take (i := 3) (v := ?v3) rfl (by kernel_rfl) (by kernel_rfl) (by kernel_rfl) (fun _ _ _ h => h) (by rfl) ?hy3 hT ?rest3
      case hy3 => (intro w hSw; (try dsimp only at hSw); go_simp; (first | done | with_reducible rfl))
      clear hT; intro hT; try simp only [Act.put, List.setIfInBounds_toArray, List.set_cons_zero, List.set_cons_succ]
      refine wpTill_call (i := 4) (v := .string Ys) (f := 31) (args := #[.int .i64 ((first : Int) + k)]) rfl (by kernel_rfl) (by kernel_rfl) (by kernel_rfl) (fun _ _ _ h => h) (by rfl) ?hy4 ?hc4 hT ?rest4
      case hy4 => (intro w hSw; (try dsimp only at hSw); go_simp; (first | done | with_reducible rfl))
      case hc4 => exact CI.out
      clear hT; intro hT; try simp only [Act.put, List.setIfInBounds_toArray, List.set_cons_zero, List.set_cons_succ]
      refine wpTill_take (i := 5) (v := ?v5) rfl (by kernel_rfl) (by kernel_rfl) (by kernel_rfl) (fun _ _ _ h => h) (by rfl) ?hy5 hT ?rest5
      case hy5 => (intro w hSw; (try dsimp only at hSw); go_simp; (first | done | with_reducible rfl))
      clear hT; intro hT; try simp only [Act.put, List.setIfInBounds_toArray, List.set_cons_zero, List.set_cons_succ]
      refine wpTill_take (i := 6) (v := ?v6) rfl (by kernel_rfl) (by kernel_rfl) (by kernel_rfl) (fun _ _ _ h => h) (by rfl) ?hy6 hT ?rest6
      case hy6 => (intro w hSw; (try dsimp only at hSw); go_simp; (first | done | with_reducible rfl))
      clear hT; intro hT; try simp only [Act.put, List.setIfInBounds_toArray, List.set_cons_zero, List.set_cons_succ]
      refine wpTill_take (i := 7) (v := ?v7) rfl (by kernel_rfl) (by kernel_rfl) (by kernel_rfl) (fun _ _ _ h => h) (by rfl) ?hy7 hT ?rest7
      case hy7 => (intro w hSw; (try dsimp only at hSw); go_simp; (first | done | with_reducible rfl))
      clear hT; intro hT; try simp only [Act.put, List.setIfInBounds_toArray, List.set_cons_zero, List.set_cons_succ]
      refine wpTill_take (i := 8) (v := ?v8) rfl (by kernel_rfl) (by kernel_rfl) (by kernel_rfl) (fun _ _ _ h => h) (by rfl) ?hy8 hT ?rest8
      case hy8 => (intro w hSw; (try dsimp only at hSw); go_simp; (first | done | with_reducible rfl))
      clear hT; intro hT; try simp only [Act.put, List.setIfInBounds_toArray, List.set_cons_zero, List.set_cons_succ]
      refine wpTill_take (i := 9) (v := ?v9) rfl (by kernel_rfl) (by kernel_rfl) (by kernel_rfl) (fun _ _ _ h => h) (by rfl) ?hy9 hT ?rest9
      case hy9 => (intro w hSw; (try dsimp only at hSw); go_simp; (first | done | with_reducible rfl))
      clear hT; intro hT; try simp only [Act.put, List.setIfInBounds_toArray, List.set_cons_zero, List.set_cons_succ]
      refine wpTill_step (i := 10) rfl (by kernel_rfl) (fun K hK => ?_)
      go_simp
      go_at_call 32
      refine CD.out.mono ?_
      rintro _ w5 ⟨⟨sd, rfl, zd⟩, q5⟩
      have q6 := undrew q5
      have J5 := hid (HI.out.to q6)
      have HY := hid (show (⟨Nm, sd⟩ : Fi).s = fName (first + F.length) ∧ (⟨Nm, sd⟩ : Fi).d.size ≤ 200 from ⟨HX.out, zd⟩)
      refine hK.out _ _ ?hS10 ?rest10
      case hS10 => exact ⟨CC2.out _ J5.out.below, fun _ => trivial⟩
      clear hT hK K; intro hT; try simp only [Act.put, List.setIfInBounds_toArray, List.set_cons_zero, List.set_cons_succ]
      clear q5 q6 CD CI
      refine wpTill_take (i := 11) (v := ?v11) rfl (by kernel_rfl) (by kernel_rfl) (by kernel_rfl) (fun _ _ _ h => h) (by rfl) ?hy11 hT ?rest11
      case hy11 => (intro w hSw; (try dsimp only at hSw); go_simp; (first | done | with_reducible rfl))
      clear hT; intro hT; try simp only [Act.put, List.setIfInBounds_toArray, List.set_cons_zero, List.set_cons_succ]
      refine wpTill_step (i := 12) rfl (by kernel_rfl) (fun K hK => ?_)
      go_simp
      have qa : Below w5.heap.size w5 (w5.alloc (.cells #[.string Nm, .string sd] 52)) := (Below.refl _ w5).alloc (Nat.le_refl _) _
      have J6 := hid (J5.out.to qa)
      have NB := hid (new_fil w5 ⟨Nm, sd⟩ 52)
      refine hK.out _ _ ?hS12 ?rest12
      case hS12 => exact ⟨CC2.out _ J6.out.below, fun _ => trivial⟩
      clear hT hK K J5; intro hT; try simp only [Act.put, List.setIfInBounds_toArray, List.set_cons_zero, List.set_cons_succ]
      refine wpTill_step (i := 13) rfl (by kernel_rfl) (fun K hK => ?_)
      refine step_appendF (by rfl) _ _ (by rfl) w.heap.size _ F (by rfl) J6.out.row ⟨w5.heap.size, 0, none⟩ 1 ⟨Nm, sd⟩ (by rfl) NB.out (by rw [HF.out]; omega) J6.out.below.size ?_
      intro g8 m8 cap8 w8 hm8 hown8 hgrow8
      have J8 := hid (J6.out.app ⟨Nm, sd⟩ HY.out hown8 hgrow8)
      refine hK.out _ _ ?hS13 ?rest13
      case hS13 => exact ⟨CC2.out _ J8.out.below, fun _ => trivial⟩
      clear hT hK K hown8 hgrow8 J6 NB CC2; intro hT; try simp only [Act.put, List.setIfInBounds_toArray, List.set_cons_zero, List.set_cons_succ]
      refine wpTill_take (i := 14) (v := ?v14) rfl (by kernel_rfl) (by kernel_rfl) (by kernel_rfl) (fun _ _ _ h => h) (by rfl) ?hy14 hT ?rest14
      case hy14 => (intro w hSw; (try dsimp only at hSw); go_simp; (first | done | with_reducible rfl))
      clear hT; intro hT; try simp only [Act.put, List.setIfInBounds_toArray, List.set_cons_zero, List.set_cons_succ]
      refine wpTill_done (by kernel_rfl) ?_ _
      have HL := hid (show (F ++ [(⟨Nm, sd⟩ : Fi)]).length = k + 1 by rw [List.length_append, HF.out]; rfl)
      clear ha HX HY
      go_wp2
      go_roundw
      case rel => exact ⟨k + 1, m8, cap8, some ⟨g8, 0, none⟩, F ++ [⟨Nm, sd⟩], by omega, by go_num, rfl, HL, J8⟩
      case measure => simp [RowKit.intOf]; omega
    · obtain rfl : k = N := by omega
      have HR := filAt_row HI.out.row (by rw [HF.out]; omega) (fun i hi => by
        obtain ⟨e1, e2⟩ := HI.out.nam i hi
        rw [e1]
        exact ⟨by show (str _).size ≤ _; rw [str_size]; unfold maxLen; simp, by unfold maxLen; omega⟩)
      have FIN : Hid (OutFsN w first k (.returned (.slice ao m cap)) wr) := ⟨ao, m, cap, F, rfl, HR, ⟨HI.out.nam, HF.out⟩, newS_own HI.out.row, HI.out.below⟩
      by_cases hkn : k = n
      · have hlt' : ¬ (k : Int) < n := by omega
        clear HI HH HN HR hkn
        go_wp2
        go_ret
        exact FIN.out
      · have h9 : k = most ∧ most ≤ n := by rcases HN.out with h | h <;> omega
        have hlt' : (k : Int) < n := by omega
        have hlt9 : ¬ (k : Int) < most := by omega
        clear HI HH HN HR hkn h9
        go_wp2
        go_ret
        exact FIN.out
end Go.Proofs.YtahoagbaadnihabGreatDoor
