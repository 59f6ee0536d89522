/- Catalogs that are made of raw things; two lists that hold the same are equal. -/
import Derived.Test.YtelgpiedchnncabDoorCatKeepMath
import Derived.Test.YtelgpiedchnncabDoorCatRows
import Derived.Test.YtelgpiedchnncabDoorStreamSecs
import Derived.Test.YtelgpiedchnncabDoorPicked
import Derived.Test.YtelgpiedchnncabDoorCatDec
import Derived.Deep.RegionHeld3
import Derived.Deep.DeepCutAuto
namespace Go.Proofs.YtelgpiedchnncabDoor
open Go.RowKit Go.Lib

set_option maxHeartbeats 1000000 in
set_option maxRecDepth 4000 in
theorem equalK_any (a : Option Addr) (n c : Nat) (b : Option Addr) (d : Nat) (L : List Bk) (w : World) (h : BlkAt w a n L) (h2 : BlkAt w b n L) :
    Calls Tryd.prog 13 #[.slice a n c, .slice b n d] w fun e w' => e = .returned (.bool true) ∧ Below w.heap.size w w' := by
  have H := hid (And.intro h h2)
  have hn := h.nb
  unfold maxLen at hn
  have n1 : ((n : Int) != n) = false := bne_self_eq_false _
  clear h h2
  go_enter Tryd.func13, Tryd.ntmps13
  go_wp2_with fail
  clear n1
  go_loopw [13] (fun i wr => ∃ k q : Nat, k ≤ n ∧ i = .int .i64 k ∧ wr = w.drewN q) (fun i _ => n - (RowKit.intOf i).toNat)
  case atStart => exact ⟨0, 0, Nat.zero_le _, rfl, rfl⟩
  case round =>
    obtain ⟨k, q, hk, rfl, rfl⟩ := hrel
    by_cases hlt : k < n
    · have hlt' : (k : Int) < n := by omega
      obtain ⟨p, o, rfl, _, e1, e2⟩ := H.out.1.c k hlt
      obtain ⟨p2, o2, rfl, _, e3, e4⟩ := H.out.2.c k hlt
      generalize bk L k = s at e1 e2 e3 e4
      clear H
      go_wp2_with fail
      go_quiet (fail)
      go_wp2
      go_roundw
      case rel => exact ⟨k + 1, _, by omega, by go_num, rfl⟩
      case measure => simp [RowKit.intOf]; omega
    · have hlt' : ¬ (k : Int) < n := by omega
      go_wp2
      go_ret
      exact ⟨rfl, below_drewN (Below.refl _ _) q⟩
set_option maxHeartbeats 1000000 in
set_option maxRecDepth 4000 in
theorem equalE_any (a : Option Addr) (n c : Nat) (b : Option Addr) (d : Nat) (E : List En) (w : World) (h : EntAt w a n E) (h2 : EntAt w b n E) :
    Calls Tryd.prog 14 #[.slice a n c, .slice b n d] w fun e w' => e = .returned (.bool true) ∧ Below w.heap.size w w' := by
  have H := hid (And.intro h h2)
  have hn := h.nb
  unfold maxLen at hn
  have n1 : ((n : Int) != n) = false := bne_self_eq_false _
  clear h h2
  go_enter Tryd.func14, Tryd.ntmps14
  go_wp2_with fail
  clear n1
  go_loopw [13] (fun i wr => ∃ k q : Nat, k ≤ n ∧ i = .int .i64 k ∧ wr = w.drewN q) (fun i _ => n - (RowKit.intOf i).toNat)
  case atStart => exact ⟨0, 0, Nat.zero_le _, rfl, rfl⟩
  case round =>
    obtain ⟨k, q, hk, rfl, rfl⟩ := hrel
    by_cases hlt : k < n
    · have hlt' : (k : Int) < n := by omega
      obtain ⟨p, o, rfl, _, e1, e2, e3, e4⟩ := H.out.1.c k hlt
      obtain ⟨p2, o2, rfl, _, e5, e6, e7, e8⟩ := H.out.2.c k hlt
      generalize en E k = s at e1 e2 e3 e4 e5 e6 e7 e8
      clear H
      go_wp2_with fail
      go_quiet (fail)
      go_wp2
      go_roundw
      case rel => exact ⟨k + 1, _, by omega, by go_num, rfl⟩
      case measure => simp [RowKit.intOf]; omega
    · have hlt' : ¬ (k : Int) < n := by omega
      go_wp2
      go_ret
      exact ⟨rfl, below_drewN (Below.refl _ _) q⟩

/-- append of one entry onto a row of the call's own, as one step of a region that draws its order. -/
theorem step_appendE {ops : Array Oper} {o : Oper} {a : Act} {w : World} {K : Act → World → Prop} {Q : Exit → Act → World → Prop} {Z : Prop}
    (hg : o.guard = none) (sl x : Operand) (hop : o.op = Op.call { callee := Callee.builtin Builtin.append, args := #[sl, x], argTypes := #[23, 23] })
    (base : Nat) (v : Value) (L : List En) (hs : a.eval sl = v) (hown : ownsE w base v L) (ad : Addr) (c : Nat) (b : En) (hx : a.eval x = .slice (some ad) 1 c) (hnews : ∀ j u, (entV [b])[j]? = some u → w.cell? (ad.add j) = some u)
    (hbd : L.length ≤ 100000) (hbase : base ≤ w.heap.size)
    (hK : ∀ g m cap w', Hid (m = (L ++ [b]).length) → base ≤ g → ownsE w' base (.slice (some ⟨g, 0, none⟩) m cap) (L ++ [b]) → w.grownBy w' v.ownBlock → K (a.put o.dst (.slice (some ⟨g, 0, none⟩) m cap)) w') :
    if Region.wanted o (yielded ops a.tmps) = true then Oper.wp Tryd.prog o a w K Q else Z := by
  obtain ⟨i0, hi, hz0, hz1, hz2⟩ := info_parts info_ent
  have hw : Region.wanted o (yielded ops a.tmps) = true := by simp [Region.wanted, hg]
  rw [if_pos hw]
  obtain ⟨v', w', hrun, r1, r2, _⟩ := run_append_own (P := Tryd.prog) w base 23 o.type 44 i0 _ 4 40 Tryd.underlying23 hi hz0 hz1 hz2 rfl (by decide) v L.length (entV L) hown ad 1 c (entV [b]) rfl hnews (by rw [show entV [b] = entC b by simp [entV]]; exact oneCell_ent b) (by unfold maxLen; omega) (by omega) hbase
  unfold Oper.wp
  simp [execOp, hop, resolve, invoke, builtin, hs, hx, hrun, Result.andThen]
  have r1' : w'.ownsRow base 44 4 v' (L ++ [b]).length (entV (L ++ [b])) := by rw [entV_app, List.length_append]; exact r1
  obtain ⟨g, cap, rfl, hg⟩ := owns_form r1' (by simp)
  exact hK g _ cap w' rfl hg r1' r2

/-- While the catalog is made: the result's box, the catalog's box, two rows. -/
structure KcI (w0 : World) (v1 v2 : Value) (L : List Bk) (E : List En) (w : World) : Prop where
  res : Own w w0.heap.size 25 [.slice none 0 0, .slice none 0 0]
  box : Own w (w0.heap.size + 1) 25 [v1, v2]
  K : ownsK w (w0.heap.size + 2) v1 L
  N : ownsE w (w0.heap.size + 2) v2 E
  below : Below w0.heap.size w0 w
  size : w0.heap.size + 2 ≤ w.heap.size
section
variable {w0 w w' : World} {v1 v2 v' : Value} {L L' : List Bk} {E E' : List En}
theorem KcI.to (h : KcI w0 v1 v2 L E w) (g : Below w.heap.size w w') : KcI w0 v1 v2 L E w' :=
  ⟨h.res.below' g, h.box.below' g, (chg_below (fun _ => False) g).row h.K (fun _ _ h => h), (chg_below (fun _ => False) g).row h.N (fun _ _ h => h), h.below.trans (g.mono (by have := h.size; omega)), Nat.le_trans h.size g.size⟩
theorem KcI.drew (h : KcI w0 v1 v2 L E w) : KcI w0 v1 v2 L E w.drew := ⟨h.res, h.box, h.K, h.N, h.below.drew, h.size⟩
theorem rows_apart3 {b1 b2 : Nat} (h : ownsK w b1 v1 L) (h' : ownsE w b2 v2 E) : ∀ g, v1.ownBlock = some g → v2.ownBlock ≠ some g := by
  intro g e1 e2
  rcases h.2 with ⟨rfl, _⟩ | ⟨g1, _, _, rfl, _, hh, _⟩
  · cases e1
  · rcases h'.2 with ⟨rfl, _⟩ | ⟨g2, _, _, rfl, _, hh2, _⟩
    · cases e2
    · cases e1
      cases e2
      rw [hh] at hh2
      simp at hh2
theorem KcI.app0 (h : KcI w0 v1 v2 L E w) (hg : w.grownBy w' v1.ownBlock) (ho : ownsK w' (w0.heap.size + 2) v' L') : Own w' (w0.heap.size + 1) 25 [v1, v2] ∧ KcI w0 v' v2 L' E (w'.setCell ⟨w0.heap.size + 1, 0, none⟩ v') := by
  have hc := chg_grown hg
  have hne : ∀ k, some k = v1.ownBlock → w0.heap.size + 2 ≤ k := fun k hk => (World.ownsRow.lt h.K k hk.symm).1
  have hs := chg_set w' (w0.heap.size + 1) 0 v'
  have hN : ownsE w' (w0.heap.size + 2) v2 E := by
    refine ⟨h.N.1, ?_⟩
    rcases h.N.2 with h0 | ⟨g, cap, cur, hv, hgg, hh, h1, h2, h3, h4⟩
    · exact .inl h0
    · exact .inr ⟨g, cap, cur, hv, hgg, (hc.block g (lt_of_block hh) (fun e => rows_apart3 h.K h.N g e.symm (by rw [hv]; rfl))).trans hh, h1, h2, h3, h4⟩
  have hb := hc.own h.box (fun e => by have := hne _ e; omega)
  exact ⟨hb, hs.own (hc.own h.res (fun e => by have := hne _ e; omega)) (by omega), hb.set (i := 0) (by simp) v', hs.row ho (fun g hg => by omega), hs.row hN (fun g hg => by omega), (h.below.trans (hc.below (by have := h.size; omega) (fun k hk e => by have := hne _ e; omega))).setCell (by show w0.heap.size ≤ w0.heap.size + 1; omega) v', Nat.le_trans h.size (Nat.le_trans hc.size hs.size)⟩
theorem KcI.app1 (h : KcI w0 v1 v2 L E w) (hg : w.grownBy w' v2.ownBlock) (ho : ownsE w' (w0.heap.size + 2) v' E') : Own w' (w0.heap.size + 1) 25 [v1, v2] ∧ KcI w0 v1 v' L E' (w'.setCell ⟨w0.heap.size + 1, 1, none⟩ v') := by
  have hc := chg_grown hg
  have hne : ∀ k, some k = v2.ownBlock → w0.heap.size + 2 ≤ k := fun k hk => (World.ownsRow.lt h.N k hk.symm).1
  have hs := chg_set w' (w0.heap.size + 1) 1 v'
  have hK : ownsK w' (w0.heap.size + 2) v1 L := by
    refine ⟨h.K.1, ?_⟩
    rcases h.K.2 with h0 | ⟨g, cap, cur, hv, hgg, hh, h1, h2, h3, h4⟩
    · exact .inl h0
    · exact .inr ⟨g, cap, cur, hv, hgg, (hc.block g (lt_of_block hh) (fun e => rows_apart3 h.K h.N g (by rw [hv]; rfl) e.symm)).trans hh, h1, h2, h3, h4⟩
  have hb := hc.own h.box (fun e => by have := hne _ e; omega)
  exact ⟨hb, hs.own (hc.own h.res (fun e => by have := hne _ e; omega)) (by omega), hb.set (i := 1) (by simp) v', hs.row hK (fun g hg => by omega), hs.row ho (fun g hg => by omega), (h.below.trans (hc.below (by have := h.size; omega) (fun k hk e => by have := hne _ e; omega))).setCell (by show w0.heap.size ≤ w0.heap.size + 1; omega) v', Nat.le_trans h.size (Nat.le_trans hc.size hs.size)⟩
end
end Go.Proofs.YtelgpiedchnncabDoor
