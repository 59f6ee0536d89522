/- For every array (nil, empty, of whatever devices) the program's archive.Open answers the very catalog and the very error of the document's own answer, P10.1's; the array is left as it was. No condition but that the listed tables of Go's library are as its text lays them (the card ties them; no step of the proof looks into them). -/
import Derived.Test.YtkhjmfngeidlcaaDoorRows
import Derived.Test.YtkhjmfngeidlcaaDoorCards
import Derived.Test.YtkhjmfngeidlcaaDoorTie
import Derived.Test.YtkhjmfngeidlcaaDoorArcOpen
import Derived.Test.YtkhjmfngeidlcaaDoorArrSame
import Derived.Test.YtkhjmfngeidlcaaDoorOpens
import Derived.Test.YtkhjmfngeidlcaaDoorRefC
import Derived.WalkKit
import Derived.ProofKit
import Derived.OpenShut
import Derived.ShutString
import Derived.SizedLaws
import Derived.Lay
import Derived.SevenTiedAt
import Derived.Stop.Joined
namespace Go.Proofs.YtkhjmfngeidlcaaDoor.archiveOpens
open Go.ChangeShapes Go.WideShapes Go.ChangeAt Go.RowKit
open Go.ChangeMaps (open_string shut_string)

theorem own : ownKnob Tryd.prog.godebug = none := by kernel_rfl
theorem laidOut : laidOutB Tryd.prog = true := by kernel_rfl

set_option maxHeartbeats 1600000 in
set_option maxRecDepth 4000 in
theorem walk (w : World) (a0 : Option Addr) (n0 c0 : Nat) (A : Ar) (h : ArrAt w a0 n0 A) :
    Calls Tryd.prog 3 #[.agg #[.slice a0 n0 c0]] w fun e w' => e = .returned (.bool true) ∧ Below w.heap.size w w' := by
  obtain ⟨W, hW, hB, bx⟩ := aboxed c0 h
  have C1 := aopen_any a0 n0 c0 A W bx.d
  have C2 := hid (fun wx (g : Below W.heap.size W wx) => refopened_any a0 n0 c0 A wx (bx.below g).d)
  obtain ⟨⟨C, T⟩, hX⟩ : ∃ X, opn A = X := ⟨_, rfl⟩
  rw [hX] at C1 C2
  rw [hW] at C1
  have H1 := hid C1
  have HE := hid hW
  have HB := hid (And.intro hB bx)
  clear hX hW hB bx C1 h
  go_enter Tryd.func3, Tryd.ntmps3
  go_wp2_with fail
  refine H1.out.mono ?_
  rintro e w1 ⟨a, n, c, a', m, c', rfl, k1, g1⟩
  rw [← HE.out] at g1
  obtain ⟨W1, hW1⟩ : ∃ W1, W1 = w1.alloc (.cells #[.slice a n c, .slice a' m c'] 28) := ⟨_, rfl⟩
  have b1 : Below w1.heap.size w1 W1 := by rw [hW1]; exact (Below.refl _ w1).alloc (Nat.le_refl _) _
  have x1 : Own W1 w1.heap.size 28 [.slice a n c, .slice a' m c'] := by rw [hW1]; exact Own.made w1 28 [.slice a n c, .slice a' m c']
  have g3 := bel3 g1 b1
  have d0 := (HB.out.2.below g3).b
  have C3 := C2.out W1 g3
  have HP := hid (And.intro (k1.below b1) (And.intro x1 (And.intro (bel3 HB.out.1 g3) hW1)))
  rw [hW1] at C3 d0
  have H3 := hid C3
  clear C3 k1 g1 b1 x1 hW1 g3 C2 H1 HE HB
  go_wp2_with fail
  refine H3.out.mono ?_
  rintro e w2 ⟨d, n', f, d', m', f', rfl, k2, g2⟩
  rw [← HP.out.2.2.2] at g2
  have e1 : n' = n := by rw [k2.B.sn, ← HP.out.1.B.sn]
  have e2 : m' = m := by rw [k2.E.sn, ← HP.out.1.E.sn]
  subst e1 e2
  obtain ⟨W2, hW2⟩ : ∃ W2, W2 = w2.alloc (.cells #[.slice d n' f, .slice d' m' f'] 28) := ⟨_, rfl⟩
  have b2 : Below w2.heap.size w2 W2 := by rw [hW2]; exact (Below.refl _ w2).alloc (Nat.le_refl _) _
  have x2 : Own W2 w2.heap.size 28 [.slice d n' f, .slice d' m' f'] := by rw [hW2]; exact Own.made w2 28 [.slice d n' f, .slice d' m' f']
  have x3 := (HP.out.2.1.below' g2).below' b2
  have CS := hid (samecat_any a n' c a' m' c' d f d' f' C W2 ((HP.out.1.below g2).below b2) (k2.below b2))
  have G := hid (HP.out.2.2.1.trans ((g2.trans (b2.mono g2.size)).mono HP.out.2.2.1.size))
  have z0 := x2.cell (i := 0) rfl
  have z1 := x2.cell (i := 1) rfl
  have z2 := x3.cell (i := 0) rfl
  have z3 := x3.cell (i := 1) rfl
  have hT : (T == T) = true := by simp
  clear H3 k2 g2 b2 x2 x3
  go_upto_region 3 with fail
  rw [← hW2]
  clear hW2
  generalize w1.heap.size = p1 at z2 z3 ⊢
  generalize w2.heap.size = p2 at z0 z1 ⊢
  go_wp2_with fail
  refine CS.out.mono ?_
  rintro _ w4 ⟨rfl, g4⟩
  go_wp2
  go_ret
  exact ⟨rfl, G.out.trans (g4.mono G.out.size)⟩

set_option maxRecDepth 100000 in
theorem lifted (os : Os) (started : os.Started) (H : Type) (enc : TypeId × Value → H) :
    ReturnsInHanded {} Tryd.checked os 3 .any (fun w args => (Rows.archiveOpensSpec.pre enc Tryd.prog Tryd.f3 Rows.archiveOpensRow.domain false w args ∧ laidMetH Tryd.prog Rows.archiveOpensRow.laid w) ∧ sizedMet enc Tryd.prog Tryd.f3 (OpenSpec.ofChange Rows.archiveOpensSpec) false w args)
      (Rows.archiveOpensSpec.post enc Tryd.prog Tryd.f3 false true false false) := by
  refine returnsInHanded_of_change_and (C := Tryd.checked) (X := fun w _ => laidMetH Tryd.prog Rows.archiveOpensRow.laid w) (fun _ _ _ hh h => h.of_heap hh) own started (by kernel_rfl) Tryd.func3
    (ChangeSpec.witness_shaped (enc := enc) (C := Tryd.checked) (os := os) (X := fun w _ => laidMetH Tryd.prog Rows.archiveOpensRow.laid w) false (World.laidAll Tryd.prog os Rows.archiveOpensRow.laid) #[.agg #[.slice none 0 0]] 8 (World.laidAll_os _ _ _)
      (World.shaped_of_ZipB (by kernel_rfl) (by kernel_rfl)) (by kernel_rfl) (by kernel_rfl) (by kernel_rfl)
      (by rw [MakeChecks.laidMetH_plain _ _ _ (by kernel_rfl)]; exact laidMet_laidAll _ (by kernel_rfl) (by kernel_rfl))) ?_
  intro W base args ds gs before hval0 hW hcnd _ _hL _
  have hval : ∀ (j : Nat) t v, Tryd.f3.params[j]? = some t → args[j]? = some v → Value.okWide Tryd.prog W .any base t v := hval0
  have hW' := hW
  obtain ⟨p, q, hA0, hV, rfl, hfz, hnd⟩ := hW
  have hA : DataW.TrodAll enc Tryd.prog W 0 (fun _ => true) true Tryd.f3.params.toList args.toList ds p := hA0
  rw [Tryd.params3] at hA hval
  obtain ⟨v0, vs0, d0, ds0, p0, q0, hargs, rfl, rfl, h0, r0⟩ := trodAll_cons hA
  obtain ⟨rfl, rfl, rfl⟩ := trodAll_nil r0
  obtain rfl : args = #[v0] := by cases args; simp_all
  obtain ⟨rfl, rfl⟩ := trodVars_none hV
  have h0k := h0
  obtain ⟨a0, n0, c0, A0, rfl, w0, f0⟩ := open_arr (hval 0 24 v0 rfl rfl) h0
  have l0 : ∀ x ∈ p0, x.block < W.heap.size := fun x hx => hW'.lt x (by simp [hx])
  clear hA0 hval0
  refine (walk W a0 n0 c0 A0 w0).mono fun e W' ⟨he, bel⟩ => ?_
  subst he
  exact ⟨_, rfl, _, _, _, [], _, [], hW', trodAll_mk1 (shut_bool Tryd.underlying4 _), (trodAll_cons_mk (Below.trod laidOut (by kernel_rfl) (of_decide_eq_true (by kernel_rfl)) h0k bel l0) trodAll_mk0), rfl, bel.frame _, fun h => by cases h⟩

theorem over : Rows.archiveOpensRow.holds Tryd.pinned (OpenSpec.ofChange Rows.archiveOpensSpec) :=
  OpenClaim.holds_of_wide 3 Tryd.f3 rfl rfl rfl rfl rfl rfl rfl ⟨rfl, rfl, rfl, rfl, rfl⟩ rfl rfl rfl rfl rfl (by kernel_rfl) Tryd.func3 (by kernel_rfl)
    (of_decide_eq_true (by kernel_rfl)) (by unfold Func.isWrapper; first | (rw [if_pos (by decide +kernel)]; kernel_rfl) | (rw [if_neg (by decide +kernel)]; exact ⟨rfl, rfl⟩))
    (fun os started H enc _ => lifted os started H enc)
end Go.Proofs.YtkhjmfngeidlcaaDoor.archiveOpens

namespace Go.Proofs.YtkhjmfngeidlcaaDoor
theorem archiveOpens_holds : Rows.ArchiveOpensCardSaid :=
  Claim7.holds_tied_plain_at .later [] [.data, .pinned] true (true, "1ff65d621a2761661fc17256197467c30eb7e9f097047a49864ad30d1045f2dd") false
    archiveOpens.over (fun _ h => by cases h) (by kernel_rfl) (fun _ h => by cases h) archiveOpens_row_tie rfl ⟨rfl, rfl⟩ (by kernel_rfl) rfl
    (fun f fn hf hfn => by
      obtain rfl : f = 3 := Option.some.inj ((show Tryd.prog.funcNamed "arras/arraslaw.ArchiveOpens" = some 3 by kernel_rfl).symm.trans hf) |>.symm
      obtain rfl : fn = Tryd.f3 := (Option.some.inj (Tryd.func3.symm.trans hfn)).symm
      exact ⟨by kernel_rfl, fun j t ht => by
        rw [Tryd.params3] at ht
        have hm : t ∈ [24] := by simpa using Array.mem_of_getElem? ht
        have hall : ([24].all fun u => !Tryd.prog.wantsStandIn u) = true := by kernel_rfl
        exact (show Tryd.prog.wantsStandIn t = false by simpa using List.all_eq_true.1 hall t hm)⟩)
    (by kernel_rfl)
#print axioms archiveOpens_holds
end Go.Proofs.YtkhjmfngeidlcaaDoor
