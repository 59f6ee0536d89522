/- Joined texts: HealUp, HealRefHealed. -/
import Derived.Test.YtpnmidkocmokeaaHealSector
import Derived.Test.YtpnmidkocmokeaaArrRefCopy
import Derived.Test.YtpnmidkocmokeaaHealRefRight
import Derived.Test.YtpnmidkocmokeaaDevRefWrite
import Derived.Deep.RegionWith
/- Arrays all of whose rows are new memory. -/
namespace Go.Proofs.Ytpnmidkocmokeaa
open Go.RowKit Go.Lib

/-- An array that can be stored over, its rows in blocks from B on. -/
structure ArrUp (B : Nat) (w : World) (b o n : Nat) (h : Nat → Hd) (A : Ar) : Prop extends ArrFree w b o n h A where
  up : ∀ i, i < n → Up B (h i)
theorem ArrUp.below {B : Nat} {w w' : World} {b o n : Nat} {h : Nat → Hd} {A : Ar} (H : ArrUp B w b o n h A) (g : Below w.heap.size w w') : ArrUp B w' b o n h A := ⟨H.toArrFree.below g, H.up⟩
theorem up_fresh {B B' : Nat} {d : Hd} (h : Fresh B' d.x d.y) (hB : B ≤ B') : Up B d := ⟨fun b o e _ => Nat.le_trans hB (h b o (.inl e)), fun b o e _ => Nat.le_trans hB (h b o (.inr e))⟩
theorem storedU {B B' : Nat} {w w4 : World} {b o i : Nat} {h : Nat → Hd} {A : Ar} (H : ArrUp B w b o 3 h A) (hi : i < 3) (g : Below w.heap.size w w4) {x y : Option Addr} {p c q d : Nat} {D : Dv} (hD : DevAt w4 x p y q D) (hF : Fresh B' x y) (hB : B ≤ B') :
    (w4.cell? ⟨b, o + i * 2, none⟩ = some (.slice (h i).x (h i).p (h i).c) ∧ w4.cell? ⟨b, o + i * 2 + 1, none⟩ = some (.slice (h i).y (h i).q (h i).d) ∧ w4.frozen? ⟨b, o + i * 2, none⟩ = false ∧ w4.frozen? ⟨b, o + i * 2 + 1, none⟩ = false) ∧
    (∃ h', ArrUp B ((w4.setCell ⟨b, o + i * 2, none⟩ (.slice x p c)).setCell ⟨b, o + i * 2 + 1, none⟩ (.slice y q d)) b o 3 h' (A.set i D)) ∧ w.grownBy ((w4.setCell ⟨b, o + i * 2, none⟩ (.slice x p c)).setCell ⟨b, o + i * 2 + 1, none⟩ (.slice y q d)) (some b) := by
  have H4 := H.below g
  obtain ⟨k1, k2⟩ := H4.toArrFree.store i hi ⟨x, p, c, y, q, d⟩ D hD
  refine ⟨⟨H4.arr.c0 i hi, H4.arr.c1 i hi, H4.free _, H4.free _⟩, ⟨_, k1, fun j hj => ?_⟩, grown_trans (grown_below g) k2⟩
  by_cases e : j = i
  · subst e
    have : setH h j ⟨x, p, c, y, q, d⟩ j = ⟨x, p, c, y, q, d⟩ := by simp [setH]
    rw [this]
    exact up_fresh hF hB
  · have : setH h i ⟨x, p, c, y, q, d⟩ j = h j := by simp [setH, e]
    rw [this]
    exact H.up j hj
/-- While an array is written, its rows new. -/
structure WrU (w : World) (pr pc b cc : Nat) (A : Ar) (W : World) : Prop extends WrI w pr pc b cc A W where
  fru : ∃ h, ArrUp w.heap.size W b 0 3 h A
section
variable {w W W' : World} {pr pc b cc : Nat} {A A' : Ar}
theorem WrU.grown (H : WrU w pr pc b cc A W) (g : W.grownBy W' (some b)) (hf : ∃ h, ArrUp w.heap.size W' b 0 3 h A') : WrU w pr pc b cc A' W' := ⟨H.toWrI.grown g (by obtain ⟨h, hh⟩ := hf; exact ⟨h, hh.toArrFree⟩), hf⟩
theorem WrU.to (H : WrU w pr pc b cc A W) (g : Below W.heap.size W W') : WrU w pr pc b cc A W' := H.grown (grown_below g) (by obtain ⟨h, hh⟩ := H.fru; exact ⟨h, hh.below g⟩)
theorem WrU.drew (H : WrU w pr pc b cc A W) : WrU w pr pc b cc A W.drew := H.to ((Below.refl _ W).drew)
end
theorem wrU_start {w W w2 : World} {pr b cc : Nat} {h : Nat → Hd} {A : Ar} (H : WrI w pr w2.heap.size b cc A (w2.alloc (.cells #[.slice (some ⟨b, 0, none⟩) 3 cc] 24))) (hf : ArrFree w2 b 0 3 h A) (hu : ∀ i, i < 3 → Up W.heap.size (h i)) (hB : w.heap.size ≤ W.heap.size) :
    WrU w pr w2.heap.size b cc A (w2.alloc (.cells #[.slice (some ⟨b, 0, none⟩) 3 cc] 24)) :=
  ⟨H, h, hf.below ((Below.refl _ w2).alloc (Nat.le_refl _) _), fun i hi => ⟨fun b o e h0 => Nat.le_trans hB ((hu i hi).1 b o e h0), fun b o e h0 => Nat.le_trans hB ((hu i hi).2 b o e h0)⟩⟩
/-- An array that comes out of a call, all of it in new memory, with a number and an error. -/
def OutHu (w : World) (r : Ar × Int × Int) (e : Ending) (w' : World) : Prop :=
  (∃ a n c, e = .returned (.tuple #[.agg #[.slice a n c], .int .i64 r.2.1, .int .i64 r.2.2]) ∧ ((n = 0 ∧ r.1 = [] ∧ a = none) ∨ ∃ b h, a = some ⟨b, 0, none⟩ ∧ w.heap.size ≤ b ∧ ArrUp w.heap.size w' b 0 n h r.1)) ∧ Below w.heap.size w w'
theorem outHu_none {w w' : World} {x : Int} (g : Below w.heap.size w w') : OutHu w ([], 0, x) (.returned (.tuple #[.agg #[.slice none 0 0], .int .i64 0, .int .i64 x])) w' := ⟨⟨none, 0, 0, rfl, .inl ⟨rfl, rfl, rfl⟩⟩, g⟩
theorem OutHu.he {w w' : World} {r : Ar × Int × Int} {e : Ending} (h : OutHu w r e w') : OutHe w r e w' := by
  obtain ⟨⟨a, n, c, h1, h2⟩, h3⟩ := h
  refine ⟨⟨a, n, c, h1, ?_⟩, h3⟩
  rcases h2 with h2 | ⟨b, hd, k1, k2, k3⟩
  · exact .inl h2
  · exact .inr ⟨b, hd, k1, k2, k3.toArrFree⟩
theorem WrU.outHu {w W : World} {pr pc b cc : Nat} {A : Ar} (H : WrU w pr pc b cc A W) (m : Int) : OutHu w (A, m, 0) (.returned (.tuple #[.agg #[.slice (some ⟨b, 0, none⟩) 3 cc], .int .i64 m, .int .i64 0])) (W.setCell ⟨pr, 0, none⟩ (.slice (some ⟨b, 0, none⟩) 3 cc)) := by
  obtain ⟨h, hh⟩ := H.fru
  exact ⟨⟨_, 3, cc, rfl, .inr ⟨b, h, rfl, H.ge.2, hh.toArrFree.box H.ne.1 H.rc _, hh.up⟩⟩, H.below.setCell (p := ⟨pr, 0, none⟩) H.ge.1 _⟩
end Go.Proofs.Ytpnmidkocmokeaa

/- What the document's own HealedOf answers. -/
namespace Go.Proofs.Ytpnmidkocmokeaa
open Go.RowKit Go.Lib

theorem refhealed_no (a : Option Addr) (n c : Nat) (i : Int) (A : Ar) (w : World) (H : ArrAt w a n A) (ht : (arRead A i).2.2 ≠ 0) :
    Calls Try.prog 21 #[.agg #[.slice a n c], .int .i64 i] w (OutHu w ([], 0, (arRead A i).2.2)) := by
  obtain ⟨W, hW⟩ : ∃ W, W = (w.alloc (.cells #[.slice a n c] 24)).alloc (.cells #[.slice none 0 0] 24) := ⟨_, rfl⟩
  have hB : Below w.heap.size w W := by rw [hW]; go_grown
  have hz : W.heap.size = w.heap.size + 2 := by rw [hW]; simp
  have rc : W.cell? ⟨w.heap.size + 1, 0, none⟩ = some (.slice none 0 0) := by rw [hW]; simp [go_sem]
  have rf : W.frozen? ⟨w.heap.size + 1, 0, none⟩ = false := by rw [hW]; simp [go_sem]
  have HT := hid (refaread_any a n c i A W (H.below hB))
  have HP := hid (And.intro hB (And.intro hz (And.intro rc rf)))
  have HK := hid (fun x w' (g : Below w.heap.size w w') => outHu_none (x := x) g)
  generalize arRead A i = r at HT ht
  have ht' : (r.2.2 != 0) = true := bne_iff_ne.2 ht
  rw [hW] at HT
  have HE := hid hW
  clear ht hB hz rc rf H hW
  go_enter Try.func21, Try.ntmps21
  go_wp2_with fail
  refine HT.out.mono ?_
  rintro _ w1 ⟨rfl, g1⟩
  rw [← HE.out] at g1
  have r1 := (g1.cell (p := ⟨w.heap.size + 1, 0, none⟩) (by show w.heap.size + 1 < W.heap.size; rw [HP.out.2.1]; omega)).trans HP.out.2.2.1
  have r2 := (g1.frozen (p := ⟨w.heap.size + 1, 0, none⟩) (by show w.heap.size + 1 < W.heap.size; rw [HP.out.2.1]; omega)).trans HP.out.2.2.2
  have y0 := World.cell?_setCell_same w1 ⟨w.heap.size + 1, 0, none⟩ (.slice none 0 0) r1
  have G1 := hid ((bel3 HP.out.1 g1).setCell (p := ⟨w.heap.size + 1, 0, none⟩) (by show w.heap.size ≤ w.heap.size + 1; omega) (.slice none 0 0))
  clear g1
  go_wp2
  refine bodyPost_ret (v := .tuple #[.agg #[.slice none 0 0], .int .i64 0, .int .i64 r.2.2]) (by simp [results, Try.results21, go_sem, y0]) rfl ?_
  exact HK.out _ _ G1.out

/-- The load of the third device, under a name: the walk goes over its places in the order, and says nothing. -/
def load107 : Op := Op.load 41 (Operand.tmp 107)
@[go_sem] theorem load107_eq : load107 = Op.load 41 (Operand.tmp 107) := rfl

set_option maxHeartbeats 16000000 in
set_option maxRecDepth 4000 in
theorem refhealed_ok (b o c : Nat) (h : Nat → Hd) (k : Nat) (A : Ar) (w : World) (H : Arr w b o 3 h A) (hm : arMay A = true) (hk : k < many A) (ht : (tell A k).2.2 = 0) :
    Calls Try.prog 21 #[.agg #[.slice (some ⟨b, o, none⟩) 3 c], .int .i64 k] w (OutHu w (heal2 A k, healN A k, 0)) := by
  obtain ⟨W, hW⟩ : ∃ W, W = (w.alloc (.cells #[.slice (some ⟨b, o, none⟩) 3 c] 24)).alloc (.cells #[.slice none 0 0] 24) := ⟨_, rfl⟩
  have hB : Below w.heap.size w W := by rw [hW]; go_grown
  have hz : W.heap.size = w.heap.size + 2 := by rw [hW]; simp
  have rc : W.cell? ⟨w.heap.size + 1, 0, none⟩ = some (.slice none 0 0) := by rw [hW]; simp [go_sem]
  have rf : W.frozen? ⟨w.heap.size + 1, 0, none⟩ = false := by rw [hW]; simp [go_sem]
  have c0 : W.cell? ⟨w.heap.size, 0, none⟩ = some (.slice (some ⟨b, o, none⟩) 3 c) := by rw [hW]; simp [go_sem]
  have hmm := (arMay_iff A).1 hm
  have hk64 : k ≤ 64 := by omega
  have HA : ∀ wx, Below W.heap.size W wx → ArrAt wx (some ⟨b, o, none⟩) 3 A := fun wx g => .inr ⟨b, o, h, rfl, (H.below hB).below g⟩
  have HW := hid (H.below hB)
  have HT := hid (refaread_any (some ⟨b, o, none⟩) 3 c k A W (HA W (Below.refl _ _)))
  rw [arRead_tell A k hm hk, hW] at HT
  have CC := hid (fun wx (g : Below W.heap.size W wx) => acopy_up (some ⟨b, o, none⟩) 3 c A wx (HA wx g) (may_fits A hm))
  have CN := hid (fun wx => partner_any k wx (by omega))
  have CB := hid (fun wx (g : Below W.heap.size W wx) => refread_any (h 1).x (h 1).p (h 1).c (h 1).y (h 1).q (h 1).d k k (dev A 1) wx ((HW.out.below g).dv 1 (by omega)))
  have h1 := heal1_may A hm k hk ht
  have hpt : part k < many (heal1 A k) := by rw [h1.2.2.1]; exact part_lt k _ hk hmm.2.2.2.2.1
  have HQ := hid (And.intro h1.2.1 (And.intro (show k < many (heal1 A k) by rw [h1.2.2.1]; exact hk) hpt))
  have HL := hid (tell_len A k ht)
  have E0 : Hid (heal0 A k = if sick0 A k = true then A.set 0 (dvWrite (dev A 0) k k (tell A k).1).1 else A) := rfl
  have E1 : Hid (heal1 A k = if sick1 A k = true then (heal0 A k).set 1 (dvWrite (dev (heal0 A k) 1) k k (tell A k).1).1 else heal0 A k) := by show _ = _; rw [(heal0_dev A k).1]; rfl
  have E2 : Hid (heal2 A k = if (known (heal1 A k) k && !right (heal1 A k) k) = true then (heal1 A k).set 2 (dvWrite (dev (heal1 A k) 2) ((k / 2 : Nat) : Int) ((512 + k / 2 : Nat) : Int) (xors (tell A k).1 (tell (heal1 A k) (part k)).1)).1 else heal1 A k) := rfl
  have S0 : Hid (sick0 A k = decide ((tell A k).2.1 ≠ 1)) := rfl
  have S1 : Hid (sick1 A k = decide ((dvRead (dev A 1) k k).2 ≠ 0 ∨ (dvRead (dev A 1) k k).1 ≠ (tell A k).1)) := rfl
  have EN : Hid (healN A k = (if sick0 A k = true then 1 else 0) + (if sick1 A k = true then 1 else 0) + (if (known (heal1 A k) k && !right (heal1 A k) k) = true then 1 else 0)) := rfl
  generalize heal2 A k = T at E2
  generalize healN A k = TN at EN
  generalize heal1 A k = A2 at E1 E2 EN HQ
  generalize heal0 A k = A1 at E0 E1
  generalize sick0 A k = x0 at S0 E0 EN
  generalize sick1 A k = x1 at S1 E1 EN
  generalize dvRead (dev A 1) k k = q at CB S1
  have ht' : ((tell A k).2.2 != 0) = false := bne_eq_false_iff_eq.2 ht
  generalize tell A k = r at HT HL E0 E1 E2 S0 S1 ht'
  have HP := hid (And.intro hB (And.intro hz (And.intro c0 (And.intro rc rf))))
  have HE := hid hW
  generalize hPP : OutHu w (T, TN, 0) = PP
  have HPP := hid hPP
  clear hB hz rc rf c0 H hW HA hm hk hmm ht h1 hpt hPP
  go_enter Try.func21, Try.ntmps21
  go_wp2_with fail
  refine HT.out.mono ?_
  rintro _ w1 ⟨rfl, g1⟩
  rw [← HE.out] at g1
  have d0 := (g1.cell (p := ⟨w.heap.size, 0, none⟩) (by show w.heap.size < W.heap.size; rw [HP.out.2.1]; omega)).trans HP.out.2.2.1
  have G1 := hid g1
  clear g1 HT HE
  go_wp2_with fail
  clear ht'
  refine (CC.out _ G1.out).mono ?_
  rintro _ w3 ⟨a3, c3, rfl, h3, g3⟩
  rcases h3 with ⟨h30, _⟩ | ⟨b3, hd3, rfl, hb3, hf3, hu3⟩
  · omega
  have hst := wrU_start (W := w1) (wrI_start (pr := w.heap.size + 1) (cc := c3) HP.out.1 (by omega) (by rw [HP.out.2.1]; omega) HP.out.2.2.2.1 HP.out.2.2.2.2 (bel3 G1.out g3) (Nat.le_trans G1.out.size hb3) hf3) hf3 hu3 (Nat.le_trans HP.out.1.size G1.out.size)
  have S3 := hid hst
  have HB := hid (Nat.le_trans G1.out.size hb3)
  go_upto_region 5 with fail
  obtain ⟨W3, hW3⟩ : ∃ W3, W3 = w3.alloc (.cells #[.slice (some ⟨b3, 0, none⟩) 3 c3] 24) := ⟨_, rfl⟩
  have b3' : Below w3.heap.size w3 W3 := by rw [hW3]; exact (Below.refl _ w3).alloc (Nat.le_refl _) _
  have G3 := hid (bel3 (bel3 G1.out g3) b3')
  rw [← hW3] at S3 ⊢
  clear hW3 hst hf3 hu3 hb3 g3 d0 G1 CC b3'
  generalize w3.heap.size = pc at S3 ⊢
  go_upto_if 33 with fail
  go_cut [11] (fun s11 wx => s11 = .int .i64 (if x0 = true then 1 else 0) ∧ WrU w (w.heap.size + 1) pc b3 c3 A1 wx ∧ Below W.heap.size W wx)
  case first =>
    by_cases e0 : r.2.1 = 1
    · have e0' : (r.2.1 != 1) = false := bne_eq_false_iff_eq.2 e0
      have X0 : Hid (x0 = false) := by show _ = _; rw [S0.out]; simp [e0]
      clear e0
      go_wp2_with fail
      go_meet
      exact ⟨by rw [X0.out] <;> rfl, by rw [E0.out, X0.out]; exact S3.out, G3.out⟩
    · have e0' : (r.2.1 != 1) = true := bne_iff_ne.2 e0
      have X0 : Hid (x0 = true) := by show _ = _; rw [S0.out]; simp [e0]
      clear e0
      obtain ⟨h4, f4⟩ := S3.out.fru
      have CW := hid (fun wx (g : Below W3.heap.size W3 wx) => refwritten_any (h4 0).x (h4 0).p (h4 0).c (h4 0).y (h4 0).q (h4 0).d k k (str r.1) (dev A 0) wx ((f4.below g).arr.dv 0 (by omega)))
      rw [str_list] at CW
      have E0' : Hid (A1 = A.set 0 (dvWrite (dev A 0) k k r.1).1) := by show _ = _; rw [E0.out, if_pos X0.out]
      generalize dvWrite (dev A 0) k k r.1 = r2 at CW E0'
      have d1 := S3.out.cb
      obtain ⟨⟨t0, t1⟩, _⟩ := f4.arr.three
      rw [Nat.zero_add] at t1
      have F4 := hid f4
      clear f4
      go_wp2_with fail
      go_region_with (go_at_call 35; refine (CW.out _ ((Below.refl _ W3).drew)).mono ?_; rintro _ w7 ⟨x, p, e, y, q', d, rfl, hD, hF, g4⟩; (have g7 := undrew g4); (have Z := storedU (c := e) (d := d) F4.out (show 0 < 3 by omega) g7 hD hF S3.out.below.size); (have S7 := hid (And.intro ((S3.out.grown Z.2.2) Z.2.1) (G3.out.grown Z.2.2 G3.out.size (fun k hk => by cases hk; exact HB.out)))); (have z0 : w7.cell? ⟨b3, 0, none⟩ = some (.slice (h4 0).x (h4 0).p (h4 0).c) := Z.1.1); (have z1 : w7.cell? ⟨b3, 1, none⟩ = some (.slice (h4 0).y (h4 0).q (h4 0).d) := Z.1.2.1); (have z2 : w7.frozen? ⟨b3, 0, none⟩ = false := Z.1.2.2.1); (have z3 : w7.frozen? ⟨b3, 1, none⟩ = false := Z.1.2.2.2); (have zb := (S3.out.to g7).cb); (have zc := S7.out.1.cb); clear g4 g7 hD hF Z)
      all_goals (go_wp2_with fail; go_meet)
      all_goals exact ⟨by rw [X0.out] <;> rfl, by rw [E0'.out]; exact S7.out.1, S7.out.2⟩
  case rest =>
    obtain ⟨rfl, hS, hG⟩ := hcut
    clear S3 G3 E0 S0
    obtain ⟨N0, hN0, hN0'⟩ : ∃ N0 : Int, N0 = (if x0 = true then 1 else 0) ∧ 0 ≤ N0 ∧ N0 ≤ 1 := ⟨_, rfl, by split <;> omega⟩
    rw [← hN0] at EN ⊢
    clear hN0
    have S4 := hid hS
    have G4 := hid hG
    clear hS hG
    have d0 := (G4.out.cell (p := ⟨w.heap.size, 0, none⟩) (by show w.heap.size < W.heap.size; rw [HP.out.2.1]; omega)).trans HP.out.2.2.1
    obtain ⟨_, ⟨t2, t3⟩, _⟩ := (HW.out.below G4.out).three
    go_wp2_with fail
    refine (CB.out _ G4.out).mono ?_
    rintro _ w5 ⟨rfl, g5⟩
    have S5 := hid (S4.out.to g5)
    clear g5 d0 t2 t3 S4 G4 CB
    go_upto_region 10 with fail
    go_cut [66] (fun s66 wx => s66 = .bool x1 ∧ wx = w5)
    case first =>
      by_cases e1 : q.2 = 0
      · have e1' : (q.2 != 0) = false := bne_eq_false_iff_eq.2 e1
        by_cases e2 : q.1 = r.1
        · have X1 : Hid (x1 = false) := by show _ = _; rw [S1.out]; simp [e1, e2]
          have e2' : ((str q.1).toList == (str r.1).toList) = true := by rw [txt_eq]; exact decide_eq_true e2
          have e3' : ((str q.1).toList != (str r.1).toList) = false := by rw [bne, e2']; rfl
          clear e1 e2
          go_wp2_with fail
          go_meet
          exact ⟨by rw [X1.out] <;> rfl, rfl⟩
        · have X1 : Hid (x1 = true) := by show _ = _; rw [S1.out]; simp [e2]
          have e2' : ((str q.1).toList == (str r.1).toList) = false := by rw [txt_eq]; exact decide_eq_false e2
          have e3' : ((str q.1).toList != (str r.1).toList) = true := by rw [bne, e2']; rfl
          clear e1 e2
          go_wp2_with fail
          go_meet
          exact ⟨by rw [X1.out] <;> rfl, rfl⟩
      · have e1' : (q.2 != 0) = true := bne_iff_ne.2 e1
        have X1 : Hid (x1 = true) := by show _ = _; rw [S1.out]; simp [e1]
        clear e1
        go_wp2_with fail
        go_meet
        exact ⟨by rw [X1.out] <;> rfl, rfl⟩
    case rest =>
      obtain ⟨rfl, hw⟩ := hcut
      rw [← hw] at S5
      clear hw S1
      go_upto_if 66 with fail
      go_cut [11] (fun s11 wx => s11 = .int .i64 (N0 + (if x1 = true then 1 else 0)) ∧ WrU w (w.heap.size + 1) pc b3 c3 A2 wx)
      case first =>
        cases x1 with
        | false =>
          go_wp2_with fail
          go_meet
          exact ⟨by simp, by rw [E1.out]; exact S5.out⟩
        | true =>
          obtain ⟨h4, f4⟩ := S5.out.fru
          have CW := hid (fun wx (g : Below wc.heap.size wc wx) => refwritten_any (h4 1).x (h4 1).p (h4 1).c (h4 1).y (h4 1).q (h4 1).d k k (str r.1) (dev A1 1) wx ((f4.below g).arr.dv 1 (by omega)))
          rw [str_list] at CW
          have E1' : Hid (A2 = A1.set 1 (dvWrite (dev A1 1) k k r.1).1) := E1.out
          generalize dvWrite (dev A1 1) k k r.1 = r2 at CW E1'
          have d1 := S5.out.cb
          obtain ⟨_, ⟨t2, t3⟩, _⟩ := f4.arr.three
          rw [Nat.zero_add] at t2 t3
          have F4 := hid f4
          clear f4
          go_wp2_with fail
          go_region_with (go_at_call 35; refine (CW.out _ ((Below.refl _ wc).drew)).mono ?_; rintro _ w7 ⟨x, p, e, y, q', d, rfl, hD, hF, g4⟩; (have g7 := undrew g4); (have Z := storedU (c := e) (d := d) F4.out (show 1 < 3 by omega) g7 hD hF S5.out.below.size); (have S7 := hid ((S5.out.grown Z.2.2) Z.2.1)); (have z0 : w7.cell? ⟨b3, 2, none⟩ = some (.slice (h4 1).x (h4 1).p (h4 1).c) := Z.1.1); (have z1 : w7.cell? ⟨b3, 3, none⟩ = some (.slice (h4 1).y (h4 1).q (h4 1).d) := Z.1.2.1); (have z2 : w7.frozen? ⟨b3, 2, none⟩ = false := Z.1.2.2.1); (have z3 : w7.frozen? ⟨b3, 3, none⟩ = false := Z.1.2.2.2); (have zb := (S5.out.to g7).cb); (have zc := S7.out.cb); clear g4 g7 hD hF Z)
          all_goals (go_wp2_with fail; go_meet)
          all_goals exact ⟨by simp, by rw [E1'.out]; exact S7.out⟩
      case rest =>
        obtain ⟨rfl, hS⟩ := hcut
        clear S5 E1
        obtain ⟨N1, hN1, hN1'⟩ : ∃ N1 : Int, N1 = N0 + (if x1 = true then 1 else 0) ∧ 0 ≤ N1 ∧ N1 ≤ 2 := ⟨_, rfl, by split <;> omega⟩
        rw [← hN1] at EN ⊢
        clear hN1 hN0'
        have S5 := hid hS
        clear hS
        obtain ⟨h5, f5⟩ := S5.out.fru
        have CR := hid (refright_any b3 0 c3 h5 A2 k _ f5.arr HQ.out.1 HQ.out.2.1)
        have HKn : Hid (known A2 k = true → (tell A2 (part k)).2.2 = 0) := fun e => by unfold known at e; rw [decide_eq_true_eq] at e; exact e.2
        generalize known A2 k = kn at CR EN E2 HKn
        generalize right A2 k = ri at CR EN E2
        have d1 := S5.out.cb
        clear f5
        go_wp2_with fail
        refine CR.out.mono ?_
        rintro _ w6 ⟨rfl, g6⟩
        have S6 := hid (S5.out.to g6)
        clear g6 d1 S5 CR
        go_upto_region 14 with fail
        go_cut [93] (fun s93 wx => s93 = .bool (kn && !ri) ∧ wx = w6)
        case first =>
          cases kn with
          | false =>
            go_wp2_with fail
            go_meet
            exact ⟨rfl, rfl⟩
          | true =>
            go_wp2_with fail
            go_meet
            exact ⟨rfl, rfl⟩
        case rest =>
          obtain ⟨rfl, hw⟩ := hcut
          rw [← hw] at S6
          have HKn2 : Hid ((kn && !ri) = true → (tell A2 (part k)).2.2 = 0) := fun e => HKn.out (by cases kn; cases e; rfl)
          clear hw HKn
          obtain ⟨x2, hx2⟩ : ∃ x2, x2 = (kn && !ri) := ⟨_, rfl⟩
          rw [← hx2] at EN E2 HKn2 ⊢
          clear hx2
          obtain ⟨W6, rfl⟩ : ∃ W6, W6 = wc := ⟨_, rfl⟩
          go_upto_if 93 with fail
          go_cut [11] (fun s11 wx => s11 = .int .i64 TN ∧ WrU w (w.heap.size + 1) pc b3 c3 T wx)
          case first =>
            cases x2 with
            | false =>
              have ET : Hid (T = A2 ∧ TN = N1) := ⟨E2.out, by have := EN.out; simpa using this⟩
              go_wp2_with fail
              go_meet
              exact ⟨by rw [ET.out.2] <;> rfl, by rw [ET.out.1]; exact S6.out⟩
            | true =>
              have hl2 := tell_len A2 (part k) (HKn2.out rfl)
              obtain ⟨h6, f6⟩ := S6.out.fru
              have CR := hid (fun wx (g : Below W6.heap.size W6 wx) => refaread_any (some ⟨b3, 0, none⟩) 3 c3 (part k) A2 wx (.inr ⟨b3, 0, h6, rfl, (f6.below g).arr⟩))
              rw [arRead_tell A2 (part k) HQ.out.1 HQ.out.2.2] at CR
              have ET : Hid (T = A2.set 2 (dvWrite (dev A2 2) ((k / 2 : Nat) : Int) ((512 + k / 2 : Nat) : Int) (xors r.1 (tell A2 (part k)).1)).1 ∧ TN = N1 + 1) := ⟨E2.out, EN.out⟩
              generalize tell A2 (part k) = u at CR ET hl2
              have CD := hid (fun wx => others_any (str r.1) (str u.1) wx (by rw [str_size, HL.out]; omega) (by rw [str_size, str_size, HL.out, hl2]; exact Nat.le_refl _) (by rw [str_size, hl2]; omega))
              rw [str_list, str_list] at CD
              generalize xors r.1 u.1 = X at CD ET
              have d1 := S6.out.cb
              clear f6 hl2 E2 EN
              go_upto_region 15 with fail
              go_cut [16, 17, 18] (fun s16 s17 s18 wx => s16 = .string (str u.1) ∧ s17 = .int .i64 u.2.1 ∧ s18 = .int .i64 u.2.2 ∧ WrU w (w.heap.size + 1) pc b3 c3 A2 wx)
              case first =>
                go_region_held3 (fun w' => w'.cell? ⟨pc, 0, none⟩ = some (.slice (some ⟨b3, 0, none⟩) 3 c3)) (go_keep)
                  (first | (go_at_call 38; refine (CN.out _).mono ?_; rintro _ w9 ⟨rfl, h9⟩; (have h8 := h9.symm); subst h8) | (go_at_call 27; refine (CR.out _ ((Below.refl _ W6).drew)).mono ?_; rintro _ w9 ⟨rfl, g9⟩; (have S9 := hid (S6.out.to (undrew g9))); (have j0 := S9.out.cb); clear g9))
                all_goals (go_wp2_with fail; go_meet)
                all_goals exact ⟨rfl, rfl, rfl, S9.out⟩
              case rest =>
                obtain ⟨rfl, rfl, rfl, hS⟩ := hcut
                have S7 := hid hS
                clear hS S6 d1 CR
                obtain ⟨h7, f7⟩ := S7.out.fru
                have u1 : IntKind.i64.wrap ((k : Int) / 2) = ((k / 2 : Nat) : Int) := by rw [IntWalk.i64_in _ (by omega)]; omega
                have u2 : IntKind.i64.wrap (512 + ((k / 2 : Nat) : Int)) = ((512 + k / 2 : Nat) : Int) := by rw [IntWalk.i64_in _ (by omega)]; omega
                have CP := hid (fun wx (g : Below wc.heap.size wc wx) => refwritten_any (h7 2).x (h7 2).p (h7 2).c (h7 2).y (h7 2).q (h7 2).d ((k / 2 : Nat) : Int) ((512 + k / 2 : Nat) : Int) (str X) (dev A2 2) wx ((f7.below g).arr.dv 2 (by omega)))
                rw [str_list] at CP
                have d1 := S7.out.cb
                obtain ⟨_, _, t4, t5⟩ := f7.arr.three
                rw [Nat.zero_add] at t4 t5
                have F7 := hid f7
                generalize dvWrite (dev A2 2) ((k / 2 : Nat) : Int) ((512 + k / 2 : Nat) : Int) X = r2 at CP ET
                generalize ((512 + k / 2 : Nat) : Int) = R at CP u2
                generalize ((k / 2 : Nat) : Int) = Q at CP u1 u2
                generalize str X = XS at CD CP
                have hN1'' : IntKind.i64.wrap (N1 + 1) = N1 + 1 := IntWalk.i64_in _ (by omega)
                clear f7
                go_wp2_with fail
                rw [← load107_eq]
                go_region_held3 (fun w' => w'.cell? ⟨pc, 0, none⟩ = some (.slice (some ⟨b3, 0, none⟩) 3 c3)) (go_keep)
                  (first | (go_at_call 39; refine (CD.out _).mono ?_; rintro _ w8 ⟨rfl, g6⟩; (have G6 := hid (undrew g6)); (have j0 := (S7.out.to G6.out).cb); (have j4 := (G6.out.cell (p := ⟨b3, 4, none⟩) F7.out.arr.lt).trans t4); (have j5 := (G6.out.cell (p := ⟨b3, 5, none⟩) F7.out.arr.lt).trans t5); clear g6) | (go_at_call 35; refine (CP.out _ G6.out).mono ?_; rintro _ w9 ⟨x, p, e, y, q', d, rfl, hD, hF, g7⟩; (have Z := storedU (c := e) (d := d) (F7.out.below G6.out) (show 2 < 3 by omega) g7 hD hF (Nat.le_trans S7.out.below.size G6.out.size)); (have S9 := hid (((S7.out.to G6.out).grown Z.2.2) Z.2.1)); (have z0 : w9.cell? ⟨b3, 4, none⟩ = some (.slice (h7 2).x (h7 2).p (h7 2).c) := Z.1.1); (have z1 : w9.cell? ⟨b3, 5, none⟩ = some (.slice (h7 2).y (h7 2).q (h7 2).d) := Z.1.2.1); (have z2 : w9.frozen? ⟨b3, 4, none⟩ = false := Z.1.2.2.1); (have z3 : w9.frozen? ⟨b3, 5, none⟩ = false := Z.1.2.2.2); (have zb := ((S7.out.to G6.out).to g7).cb); (have zc := S9.out.cb); clear g7 hD hF Z))
                all_goals (go_wp2_with fail; go_meet)
                all_goals exact ⟨by rw [ET.out.2] <;> rfl, by rw [ET.out.1]; exact S9.out⟩
          case rest =>
            obtain ⟨rfl, hS⟩ := hcut
            clear S6 E2 EN HKn2 CN
            have S7 := hid hS
            clear hS
            have d1 := S7.out.cb
            have rc := S7.out.rc
            have rf := S7.out.rf
            have y0 := hid (World.cell?_setCell_same _ ⟨w.heap.size + 1, 0, none⟩ (.slice (some ⟨b3, 0, none⟩) 3 c3) rc)
            go_upto_region 18 with fail
            go_cut [5, 6] (fun s5 s6 wx => s5 = .int .i64 TN ∧ s6 = .int .i64 0 ∧ Hid (wx.cell? ⟨w.heap.size + 1, 0, none⟩ = some (.slice (some ⟨b3, 0, none⟩) 3 c3) ∧ OutHu w (T, TN, 0) (.returned (.tuple #[.agg #[.slice (some ⟨b3, 0, none⟩) 3 c3], .int .i64 TN, .int .i64 0])) wx))
            case first =>
              go_wp2_with fail
              go_meet
              exact ⟨rfl, rfl, y0.out, S7.out.outHu TN⟩
            case rest =>
              obtain ⟨rfl, rfl, hw⟩ := hcut
              clear y0 rc rf d1
              have y0 := hw.out.1
              rename_i K8 hK8
              refine hK8 _ _ (wp_ret ?_)
              refine bodyPost_ret (v := .tuple #[.agg #[.slice (some ⟨b3, 0, none⟩) 3 c3], .int .i64 TN, .int .i64 0]) (by simp [results, Try.results21, go_sem, y0]) rfl ?_
              rw [← HPP.out]
              exact hw.out.2
theorem refhealed_up (a : Option Addr) (n c : Nat) (i : Int) (A : Ar) (w : World) (H : ArrAt w a n A) :
    Calls Try.prog 21 #[.agg #[.slice a n c], .int .i64 i] w (OutHu w (arHeal A i)) := by
  unfold arHeal
  by_cases ht : (arRead A i).2.2 = 0
  · rw [if_pos ht]
    have h0 : arTouch A i = 0 := by
      apply Classical.byContradiction
      intro h
      rw [arRead, if_neg h] at ht
      exact h ht
    obtain ⟨hm, h0, h1⟩ := arTouch_ok A i h0
    obtain ⟨k, rfl⟩ : ∃ k : Nat, i = k := ⟨i.toNat, by omega⟩
    obtain ⟨rfl, b, o, h, rfl, HX⟩ := may_three H hm
    rw [arRead_tell A k hm (by omega)] at ht
    rw [show (k : Int).toNat = k by omega]
    exact refhealed_ok b o c h k A w HX hm (by omega) ht
  · rw [if_neg ht]
    exact refhealed_no a n c i A w H ht
theorem refhealed_any (a : Option Addr) (n c : Nat) (i : Int) (A : Ar) (w : World) (H : ArrAt w a n A) :
    Calls Try.prog 21 #[.agg #[.slice a n c], .int .i64 i] w (OutHe w (arHeal A i)) := (refhealed_up a n c i A w H).mono fun _ _ h => h.he
end Go.Proofs.Ytpnmidkocmokeaa
