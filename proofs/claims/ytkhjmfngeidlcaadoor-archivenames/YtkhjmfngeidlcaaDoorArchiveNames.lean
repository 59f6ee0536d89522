/- For every array (nil, empty, of whatever devices) the program's archive.Names answers the very names and the very error of the document's own answer, P10.5's; the array is left as it was. No condition but that the listed tables of Go's library are as its text lays them (the card ties them; no step of the proof looks into them). -/
import Derived.Test.YtkhjmfngeidlcaaDoorRows
import Derived.Test.YtkhjmfngeidlcaaDoorCards
import Derived.Test.YtkhjmfngeidlcaaDoorTie
import Derived.Test.YtkhjmfngeidlcaaDoorArcNames
import Derived.Test.YtkhjmfngeidlcaaDoorArrSame
import Derived.Test.YtkhjmfngeidlcaaDoorOpens
import Derived.Test.YtkhjmfngeidlcaaDoorTxtSame
import Derived.WalkKit
import Derived.ProofKit
import Derived.OpenShut
import Derived.ShutString
import Derived.SizedLaws
import Derived.Lay
import Derived.SevenTiedAt
import Derived.Stop.Joined
namespace Go.Proofs.YtkhjmfngeidlcaaDoor.archiveNames
open Go.ChangeShapes Go.WideShapes Go.ChangeAt Go.RowKit
open Go.ChangeMaps (open_string shut_string)

theorem own : ownKnob Tryd.prog.godebug = none := by kernel_rfl
theorem laidOut : laidOutB Tryd.prog = true := by kernel_rfl

set_option maxHeartbeats 1600000 in
set_option maxRecDepth 4000 in
theorem walk (w : World) (a0 : Option Addr) (n0 c0 : Nat) (A : Ar) (h : ArrAt w a0 n0 A) :
    Calls Tryd.prog 5 #[.agg #[.slice a0 n0 c0]] w fun e w' => e = .returned (.bool true) ∧ Below w.heap.size w w' := by
  obtain ⟨W, hW, hB, bx⟩ := aboxed c0 h
  have C1 := names_any a0 n0 c0 A W bx.d
  have C2 := hid (fun wx (g : Below W.heap.size W wx) => refnames_any a0 n0 c0 A wx (bx.below g).d)
  generalize namesE (opn A).1.2 = S at C1 C2
  generalize (opn A).2 = T at C1 C2
  rw [hW] at C1
  have H1 := hid C1
  have HE := hid hW
  have HB := hid (And.intro hB bx)
  clear hW hB bx C1 h
  go_enter Tryd.func5, Tryd.ntmps5
  go_wp2_with fail
  refine H1.out.mono ?_
  rintro e w1 ⟨a, n, c, rfl, ⟨k1, k2, k3⟩, g1⟩
  rw [← HE.out] at g1
  have d0 := (HB.out.2.below g1).b
  have HP := hid (And.intro k1 (And.intro k2 (And.intro k3 g1)))
  clear k1 k2 k3 g1 H1 HE
  go_wp2_with fail
  refine (C2.out _ HP.out.2.2.2).mono ?_
  rintro e w2 ⟨b, m, d, rfl, ⟨k4, k5, k6⟩, g2⟩
  have e1 : m = n := by rw [k5, HP.out.2.1]
  subst e1
  have CS := hid (sametx_any a m c b d S w2 (HP.out.1.below g2) k4 k5 k6)
  have G := hid (bel3 (bel3 HB.out.1 HP.out.2.2.2) g2)
  have hT : (T == T) = true := by simp
  clear k4 k5 k6 g2 d0 C2 HP HB
  go_wp2_with fail
  refine CS.out.mono ?_
  rintro _ w4 ⟨rfl, g4⟩
  go_wp2
  go_ret
  exact ⟨rfl, G.out.trans (g4.mono G.out.size)⟩

set_option maxRecDepth 100000 in
theorem lifted (os : Os) (started : os.Started) (H : Type) (enc : TypeId × Value → H) :
    ReturnsInHanded {} Tryd.checked os 5 .any (fun w args => (Rows.archiveNamesSpec.pre enc Tryd.prog Tryd.f5 Rows.archiveNamesRow.domain false w args ∧ laidMetH Tryd.prog Rows.archiveNamesRow.laid w) ∧ sizedMet enc Tryd.prog Tryd.f5 (OpenSpec.ofChange Rows.archiveNamesSpec) false w args)
      (Rows.archiveNamesSpec.post enc Tryd.prog Tryd.f5 false true false false) := by
  refine returnsInHanded_of_change_and (C := Tryd.checked) (X := fun w _ => laidMetH Tryd.prog Rows.archiveNamesRow.laid w) (fun _ _ _ hh h => h.of_heap hh) own started (by kernel_rfl) Tryd.func5
    (ChangeSpec.witness_shaped (enc := enc) (C := Tryd.checked) (os := os) (X := fun w _ => laidMetH Tryd.prog Rows.archiveNamesRow.laid w) false (World.laidAll Tryd.prog os Rows.archiveNamesRow.laid) #[.agg #[.slice none 0 0]] 8 (World.laidAll_os _ _ _)
      (World.shaped_of_ZipB (by kernel_rfl) (by kernel_rfl)) (by kernel_rfl) (by kernel_rfl) (by kernel_rfl)
      (by rw [MakeChecks.laidMetH_plain _ _ _ (by kernel_rfl)]; exact laidMet_laidAll _ (by kernel_rfl) (by kernel_rfl))) ?_
  intro W base args ds gs before hval0 hW hcnd _ _hL _
  have hval : ∀ (j : Nat) t v, Tryd.f5.params[j]? = some t → args[j]? = some v → Value.okWide Tryd.prog W .any base t v := hval0
  have hW' := hW
  obtain ⟨p, q, hA0, hV, rfl, hfz, hnd⟩ := hW
  have hA : DataW.TrodAll enc Tryd.prog W 0 (fun _ => true) true Tryd.f5.params.toList args.toList ds p := hA0
  rw [Tryd.params5] at hA hval
  obtain ⟨v0, vs0, d0, ds0, p0, q0, hargs, rfl, rfl, h0, r0⟩ := trodAll_cons hA
  obtain ⟨rfl, rfl, rfl⟩ := trodAll_nil r0
  obtain rfl : args = #[v0] := by cases args; simp_all
  obtain ⟨rfl, rfl⟩ := trodVars_none hV
  have h0k := h0
  obtain ⟨a0, n0, c0, A0, rfl, w0, f0⟩ := open_arr (hval 0 24 v0 rfl rfl) h0
  have l0 : ∀ x ∈ p0, x.block < W.heap.size := fun x hx => hW'.lt x (by simp [hx])
  clear hA0 hval0
  refine (walk W a0 n0 c0 A0 w0).mono fun e W' ⟨he, bel⟩ => ?_
  subst he
  exact ⟨_, rfl, _, _, _, [], _, [], hW', trodAll_mk1 (shut_bool Tryd.underlying4 _), (trodAll_cons_mk (Below.trod laidOut (by kernel_rfl) (of_decide_eq_true (by kernel_rfl)) h0k bel l0) trodAll_mk0), rfl, bel.frame _, fun h => by cases h⟩

theorem over : Rows.archiveNamesRow.holds Tryd.pinned (OpenSpec.ofChange Rows.archiveNamesSpec) :=
  OpenClaim.holds_of_wide 5 Tryd.f5 rfl rfl rfl rfl rfl rfl rfl ⟨rfl, rfl, rfl, rfl, rfl⟩ rfl rfl rfl rfl rfl (by kernel_rfl) Tryd.func5 (by kernel_rfl)
    (of_decide_eq_true (by kernel_rfl)) (by unfold Func.isWrapper; first | (rw [if_pos (by decide +kernel)]; kernel_rfl) | (rw [if_neg (by decide +kernel)]; exact ⟨rfl, rfl⟩))
    (fun os started H enc _ => lifted os started H enc)
end Go.Proofs.YtkhjmfngeidlcaaDoor.archiveNames

namespace Go.Proofs.YtkhjmfngeidlcaaDoor
theorem archiveNames_holds : Rows.ArchiveNamesCardSaid :=
  Claim7.holds_tied_plain_at .later [] [.data, .pinned] true (true, "1ff65d621a2761661fc17256197467c30eb7e9f097047a49864ad30d1045f2dd") false
    archiveNames.over (fun _ h => by cases h) (by kernel_rfl) (fun _ h => by cases h) archiveNames_row_tie rfl ⟨rfl, rfl⟩ (by kernel_rfl) rfl
    (fun f fn hf hfn => by
      obtain rfl : f = 5 := Option.some.inj ((show Tryd.prog.funcNamed "arras/arraslaw.ArchiveNames" = some 5 by kernel_rfl).symm.trans hf) |>.symm
      obtain rfl : fn = Tryd.f5 := (Option.some.inj (Tryd.func5.symm.trans hfn)).symm
      exact ⟨by kernel_rfl, fun j t ht => by
        rw [Tryd.params5] at ht
        have hm : t ∈ [24] := by simpa using Array.mem_of_getElem? ht
        have hall : ([24].all fun u => !Tryd.prog.wantsStandIn u) = true := by kernel_rfl
        exact (show Tryd.prog.wantsStandIn t = false by simpa using List.all_eq_true.1 hall t hm)⟩)
    (by kernel_rfl)
#print axioms archiveNames_holds
end Go.Proofs.YtkhjmfngeidlcaaDoor
