/- Numbers of the call's own in a block of numbers alone: one more of them; sorted, each once. -/
import Derived.Test.YtpnmidkocmokeaaInts
import Derived.Test.YtpnmidkocmokeaaShelf
import Derived.Test.YtpnmidkocmokeaaScrubGone
import Derived.Test.YtpnmidkocmokeaaDevOpen
import Derived.Test.YtpnmidkocmokeaaArrStore
import Derived.Sort.OwnSortedInts
namespace Go.Proofs.Ytpnmidkocmokeaa
open Go.RowKit Go.Lib Go.Sort

/-- A block that holds numbers alone. -/
def IntBlock (w : World) (g : Nat) : Prop := ∃ cs t fr, w.heap[g]? = some (.cells cs t fr) ∧ ∀ u ∈ cs.toList, ∃ x, u = Value.int .i64 x
theorem IntBlock.cell {w : World} {g : Nat} (h : IntBlock w g) {p : Addr} {u : Value} (hp : p.block = g) (hc : w.cell? p = some u) : ∃ x, u = Value.int .i64 x := by
  obtain ⟨cs, t, fr, hb, ha⟩ := h
  obtain ⟨hs, _⟩ := cell_plain hc
  obtain ⟨b, o, s⟩ := p
  cases hp
  cases hs
  simp only [World.cell?, hb] at hc
  refine ha u ?_
  have hc' : cs[o]? = some u := by simpa using hc
  rw [← Array.getElem?_toList] at hc'
  exact List.mem_of_getElem? hc'
/-- The slice v owns these numbers, from block 'base' on, in a block of numbers alone. -/
structure OwnN (w : World) (base : Nat) (v : Value) (L : List Int) : Prop where
  own : ownsI w base v L
  int : ∀ g, v.ownBlock = some g → IntBlock w g
theorem ownN_nil (w : World) (base : Nat) : OwnN w base (.slice none 0 0) [] := ⟨ownsI_nil _ _, fun g h => by cases h⟩
section
variable {w w' : World} {base : Nat} {v : Value} {L : List Int}
theorem OwnN.below (h : OwnN w base v L) (g : Below w.heap.size w w') : OwnN w' base v L :=
  ⟨ownsI_below h.own g, fun b hb => by
    obtain ⟨cs, t, fr, h1, h2⟩ := h.int b hb
    exact ⟨cs, t, fr, (g.block b (World.ownsRow.lt h.own b hb).2).trans h1, h2⟩⟩
theorem OwnN.other (h : OwnN w base v L) {p : Addr} (hp : p.block < base) (u : Value) : OwnN (w.setCell p u) base v L := by
  refine ⟨ownsRow_setCell_below h.own hp u, fun b hb => ?_⟩
  obtain ⟨cs, t, fr, h1, h2⟩ := h.int b hb
  have := (World.ownsRow.lt h.own b hb).1
  exact ⟨cs, t, fr, (Below.heap_setCell w p u b (by omega)).trans h1, h2⟩
/-- Something else than a number lies in another block. -/
theorem OwnN.apart (h : OwnN w base v L) {p : Addr} {u : Value} (hc : w.cell? p = some u) (hu : ∀ x, u ≠ .int .i64 x) : v.ownBlock ≠ some p.block := fun e => by
  obtain ⟨x, hx⟩ := (h.int _ e).cell rfl hc
  exact hu x hx
end
theorem zero_ints (n : Nat) : ∀ u ∈ (Builtin.zeroCells (Value.int .i64 0).cells n).toList, ∃ x, u = Value.int .i64 x := by
  intro u hu
  simp [Builtin.zeroCells, Value.cells] at hu
  obtain ⟨j, _, hj⟩ := hu
  rw [Nat.mod_one] at hj
  exact ⟨0, hj.symm⟩
theorem ints_ints (L : List Int) : ∀ u ∈ intsV L, ∃ x, u = Value.int .i64 x := by
  intro u hu
  obtain ⟨x, _, rfl⟩ := List.mem_map.1 hu
  exact ⟨x, rfl⟩

theorem run_appendN (w : World) (ty : TypeId) (base : Nat) (v : Value) (L : List Int) (k : Int) (H : OwnN w base v L) (ad : Addr) (hu : w.cell? ad = some (.int .i64 k)) (hbd : L.length ≤ 1000) (hbase : base ≤ w.heap.size) :
    ∃ g cap w', (Builtin.append_ #[28, 28] ty #[v, .slice (some ad) 1 1]).run Try.prog w = .ok (.slice (some ⟨g, 0, none⟩) (L ++ [k]).length cap) w' ∧ OwnN w' base (.slice (some ⟨g, 0, none⟩) (L ++ [k]).length cap) (L ++ [k]) ∧ w.grownBy w' v.ownBlock := by
  obtain ⟨i0, hi, hz0, hz1, hz2⟩ := info_parts info_int
  have hnews : ∀ j u, (intsV [k])[j]? = some u → w.cell? (ad.add j) = some u := fun j u hj => by
    match j, hj with
    | 0, hj => simp [intsV] at hj; subst hj; exact hu
    | j + 1, hj => simp [intsV] at hj
  obtain ⟨v', w', hr, ho, hg, _⟩ := run_append_own (P := Try.prog) w base 28 ty 3 i0 (.int .i64 0) 1 8 Try.underlying28 hi hz0 hz1 hz2 rfl (by decide) v L.length (intsV L) H.own ad 1 1 (intsV [k]) rfl hnews (oneCell_ints _) (by unfold maxLen; omega) (by omega) hbase
  rw [show intsV [k] = [.int .i64 k] from rfl, ← intsV_snoc, show L.length + 1 = (L ++ [k]).length by simp] at ho
  have hint : ∀ g, v'.ownBlock = some g → IntBlock w' g := by
    rcases H.own.2 with ⟨rfl, h0⟩ | ⟨g, cap, cur, rfl, hbg, hh, hnc, hcm, hcs, htake⟩
    · have hr2 := run_append_nil (P := Try.prog) w 28 ty 3 i0 (.int .i64 0) Try.underlying28 hi hz0 ad 1 1 (intsV [k]) (by rw [hz1]; rfl) hnews (by omega) (by omega) (by rw [hz2]; omega)
      rw [hr] at hr2
      cases hr2
      intro g hgb
      obtain rfl : w.heap.size = g := by simpa [Value.ownBlock] using hgb
      refine ⟨_, _, _, heap_alloc_new w.drew _, fun u hu => ?_⟩
      rw [Array.toList_append, List.mem_append] at hu
      rcases hu with hu | hu
      · exact ints_ints [k] u hu
      · exact zero_ints _ u hu
    · by_cases hroom : L.length + 1 ≤ cap
      · have hr2 := run_append_room (P := Try.prog) w 28 ty 3 i0 Try.underlying28 hi g L.length cap cur hh ad 1 1 (intsV [k]) (by rw [hz1]; rfl) hnews (oneCell_ints _) hroom (by rw [hz1, hcs]; simp [intsV]; omega)
        rw [hr] at hr2
        cases hr2
        intro g' hgb
        obtain rfl : g = g' := by simpa [Value.ownBlock] using hgb
        obtain ⟨cs, t, fr, h1, h2⟩ := H.int g rfl
        rw [hh] at h1
        cases h1
        refine ⟨_, _, _, setRow_heap w g cur _ _ _ hh, fun u hu => ?_⟩
        simp only [List.mem_append] at hu
        rcases hu with (hu | hu) | hu
        · exact h2 u (List.mem_of_mem_take hu)
        · exact ints_ints [k] u hu
        · exact h2 u (List.mem_of_mem_drop hu)
      · have holds : ∀ j u, (intsV L)[j]? = some u → w.cell? ((⟨g, 0, none⟩ : Addr).add j) = some u := World.ownsRow.cells H.own (g := g) rfl
        have hr2 := run_append_grow (P := Try.prog) w 28 ty 3 i0 (.int .i64 0) Try.underlying28 hi hz0 ⟨g, 0, none⟩ L.length cap (intsV L) (by rw [intsV_length, hz1]; omega) holds ad 1 1 (intsV [k]) (by rw [hz1]; rfl) hnews (by omega) (by omega) (growslice_fits (by omega) (by rw [hz2]; omega))
        rw [hr] at hr2
        cases hr2
        intro g' hgb
        obtain rfl : w.heap.size = g' := by simpa [Value.ownBlock] using hgb
        refine ⟨_, _, _, heap_alloc_new w.drew _, fun u hu => ?_⟩
        simp only [Array.toList_append, List.mem_append] at hu
        rcases hu with (hu | hu) | hu
        · exact ints_ints L u hu
        · exact ints_ints [k] u hu
        · exact zero_ints _ u hu
  obtain ⟨g, cap, rfl, _⟩ := owns_form ho (by simp)
  exact ⟨g, cap, w', hr, ⟨ho, hint⟩, hg⟩
/-- append of one number. -/
theorem wpList_appendN (w : World) {ops : Array Oper} {rest : List Oper} {o : Oper} {a : Act} {Q : Exit → Act → World → Prop} (hgd : o.guard = none) (s x : Operand)
    (ho : o.op = .call { callee := .builtin .append, args := #[s, x], argTypes := #[28, 28] })
    (base : Nat) (v : Value) (L : List Int) (k : Int) (hs : a.eval s = v) (hown : OwnN w base v L)
    (ad : Addr) (hx : a.eval x = .slice (some ad) 1 1) (hu : w.cell? ad = some (.int .i64 k)) (hbd : L.length ≤ 1000) (hbase : base ≤ w.heap.size)
    (h : ∀ g m cap w', Hid (m = (L ++ [k]).length) → OwnN w' base (.slice (some ⟨g, 0, none⟩) m cap) (L ++ [k]) → w.grownBy w' v.ownBlock → wpList Try.prog ops Q rest (a.put o.dst (.slice (some ⟨g, 0, none⟩) m cap)) w') :
    wpList Try.prog ops Q (o :: rest) a w := by
  obtain ⟨g, cap, w', hr, r1, r2⟩ := run_appendN w o.type base v L k hown ad hu hbd hbase
  refine wpList_plain hgd fun _ hK => ?_
  unfold Oper.wp
  simp [execOp, ho, resolve, invoke, builtin, hs, hx, hr, Result.andThen]
  exact hK _ _ (h g _ cap w' (hid (by simp)) (by simpa using r1) r2)

/-- Numbers that come out, where the slice v stood. -/
def OutN1 (w : World) (v : Value) (base : Nat) (L : List Int) (e : Ending) (w' : World) : Prop :=
  (∃ a n c, e = .returned (.slice a n c) ∧ IntsAt w' a n L ∧ (0 < n → ∀ b o s, a = some ⟨b, o, s⟩ → base ≤ b)) ∧ w.grownBy w' v.ownBlock
theorem compact_le (zs : List Int) : (compact zs).length ≤ zs.length := by
  unfold compact compactUpTo
  rw [List.length_map]
  have := List.length_filter_le (Go.Lib.keeps zs.toArray) (List.range zs.length)
  rw [List.length_range] at this
  exact this
theorem compact_pos (zs : List Int) (h : compact zs = []) : zs = [] := by
  cases zs with
  | nil => rfl
  | cons z r =>
    exfalso
    have : (0 : Nat) ∈ (List.range (z :: r).length).filter (Go.Lib.keeps (z :: r).toArray) := by
      rw [List.mem_filter]
      exact ⟨by simp, by simp [Go.Lib.keeps]⟩
    unfold compact compactUpTo at h
    rw [List.map_eq_nil_iff] at h
    rw [h] at this
    cases this

set_option maxHeartbeats 1600000 in
theorem rising_any (base : Nat) (v : Value) (L : List Int) (w : World) (H : OwnN w base v L) (hL : L.length ≤ 1000) :
    Calls Try.prog 18 #[v] w (OutN1 w v base (compact (L.mergeSort fun x y => decide (x ≤ y)))) := by
  by_cases h0 : L = []
  · subst h0
    obtain ⟨a, m, c, rfl, hI⟩ := ownsI_at H.own (by simp)
    obtain rfl : m = 0 := hI.sn
    have C1 := hid (Try.slices_Sort_int_none a c)
    have C2 := hid (Try.slices_Compact_int_empty a c)
    have e0 : compact (([] : List Int).mergeSort fun x y => decide (x ≤ y)) = [] := by simp [compact, compactUpTo]
    rw [e0]
    have HO := hid (show OutN1 w (.slice a 0 c) base [] (.returned (.slice a 0 c)) w from ⟨⟨a, 0, c, rfl, intsAt_none _ _, fun h => absurd h (by decide)⟩, ⟨rfl, rfl, rfl, Nat.le_refl _, fun _ _ _ => rfl⟩⟩)
    clear H hI e0
    go_enter Try.func18, Try.ntmps18
    go_wp2_with fail
    refine (C1.out _).mono ?_
    rintro _ w1 ⟨rfl, rfl⟩
    go_wp2_with fail
    refine (C2.out _).mono ?_
    rintro _ w2 ⟨rfl, rfl⟩
    go_wp2
    go_ret
    exact HO.out
  · have hpos : 0 < L.length := List.length_pos_iff.2 h0
    rcases H.own.2 with ⟨_, h1⟩ | ⟨g, cap, cur, rfl, hbg, hh, hnc, hcm, hcs, htake⟩
    · omega
    rw [Nat.mul_one] at htake
    have hlt : g < w.heap.size := lt_of_block hh
    have hH : Holds (Value.int .i64) w g 0 L.toArray := holds_of_blockI hh htake
    obtain ⟨S, hS⟩ : ∃ S, S = L.mergeSort fun x y => decide (x ≤ y) := ⟨_, rfl⟩
    have hSl : S.length = L.length := by rw [hS]; exact List.length_mergeSort _
    have C1 := Try.slices_Sort_int g 0 cap L w hH hlt (by omega)
    rw [← hS] at C1
    rw [← hS]
    have C2 := fun wx (h : Holds (Value.int .i64) wx g 0 S.toArray) => Try.slices_Compact_int g 0 cap S wx h (by omega) (by omega)
    rw [hSl] at C2
    have hcl := compact_le S
    have hcp : 0 < (compact S).length := by
      rcases Nat.eq_zero_or_pos (compact S).length with e | e
      · have := compact_pos S (List.eq_nil_of_length_eq_zero e)
        rw [this] at hSl
        simp at hSl
        omega
      · exact e
    rw [hSl] at hcl
    have H1 := hid C1
    have H2 := hid C2
    have HK := hid (And.intro hH (And.intro hlt (And.intro hSl (And.intro hcl hbg))))
    clear C1 C2 hH hS H htake hh hcs
    go_enter Try.func18, Try.ntmps18
    go_wp2_with fail
    refine H1.out.mono ?_
    rintro _ w1 ⟨rfl, n1, os1, hw1⟩
    have hH1 : Holds (Value.int .i64) w1 g 0 S.toArray := by
      rw [hw1]
      exact holds_grow _ _ _ _ _ _ (by simpa using HK.out.2.1) (holds_putRow _ _ _ _ L.toArray _ (holds_ahead _ _ _ _ _ _ HK.out.1) (by simp [HK.out.2.2.1]))
    have g1 : w.grownBy w1 (some g) := by rw [hw1]; exact grownBy_sortedI _
    have HG1 := hid (And.intro g1 hH1)
    clear hw1 g1 hH1
    go_wp2_with fail
    refine (H2.out _ HG1.out.2).mono ?_
    rintro _ w2 ⟨rfl, q, hw2⟩
    have hH2 : Holds (Value.int .i64) w2 g 0 (compact S ++ List.replicate (L.length - (compact S).length) 0).toArray := by
      rw [hw2]
      exact holds_putRow _ _ _ _ S.toArray _ (holds_ahead _ _ _ _ _ _ HG1.out.2) (by simp [HK.out.2.2.1]; have := HK.out.2.2.2.1; omega)
    have hs2 : w2.heap.size = w1.heap.size := by rw [hw2]; simp
    have g2 : w1.grownBy w2 (some g) := by
      have := grownBy_sortedI (w := w1) (g := g) (n := q) (os := #[]) (compact S ++ List.replicate (L.length - (compact S).length) 0).toArray
      rw [grow_empty, ← hw2] at this
      exact this
    have HO := hid (show OutN1 w (.slice (some ⟨g, 0, none⟩) L.length cap) base (compact S) (.returned (.slice (some ⟨g, 0, none⟩) (compact S).length cap)) w2 from by
      refine ⟨⟨some ⟨g, 0, none⟩, _, cap, rfl, ⟨rfl, by unfold maxLen; have := HK.out.2.2.2.1; omega, fun i u hu => ?_⟩, fun _ b o s e => by cases e; exact HK.out.2.2.2.2⟩, grown_trans HG1.out.1 g2⟩
      have hi : i < (compact S).length := by
        rcases Nat.lt_or_ge i (compact S).length with h1 | h1
        · exact h1
        · rw [List.getElem?_eq_none (by rw [intsV_length]; exact h1)] at hu; cases hu
      refine ⟨g, 0, rfl, ?_, ?_⟩
      · have := HG1.out.1.size; have := HK.out.2.1; omega
      · have hc := (hH2 i (by simp; omega)).1
        rw [hc]
        have e : (compact S ++ List.replicate (L.length - (compact S).length) 0).toArray[i]! = (compact S)[i] := by
          rw [getElem!_pos _ i (by simp; omega)]
          simp [hi]
        rw [e]
        simp [intsV, hi] at hu
        rw [hu])
    clear hw2 hH2 hs2 g2
    go_wp2
    go_ret
    exact HO.out
end Go.Proofs.Ytpnmidkocmokeaa
