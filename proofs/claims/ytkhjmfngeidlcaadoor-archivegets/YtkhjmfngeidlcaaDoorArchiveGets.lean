/- For every array (nil, empty, of whatever devices) the program's archive.Get answers, for every name, the very bytes and the very error of the document's own answer, P10.4's; the array is left as it was. No condition but that the listed tables of Go's library are as its text lays them (the card ties them; no step of the proof looks into them). -/
import Derived.Test.YtkhjmfngeidlcaaDoorRows
import Derived.Test.YtkhjmfngeidlcaaDoorCards
import Derived.Test.YtkhjmfngeidlcaaDoorTie
import Derived.Test.YtkhjmfngeidlcaaDoorArcGet
import Derived.Test.YtkhjmfngeidlcaaDoorArrSame
import Derived.Test.YtkhjmfngeidlcaaDoorOpens
import Derived.WalkKit
import Derived.ProofKit
import Derived.OpenShut
import Derived.ShutString
import Derived.SizedLaws
import Derived.Lay
import Derived.SevenTiedAt
import Derived.Stop.Joined
namespace Go.Proofs.YtkhjmfngeidlcaaDoor.archiveGets
open Go.ChangeShapes Go.WideShapes Go.ChangeAt Go.RowKit
open Go.ChangeMaps (open_string shut_string)

theorem own : ownKnob Tryd.prog.godebug = none := by kernel_rfl
theorem laidOut : laidOutB Tryd.prog = true := by kernel_rfl

set_option maxHeartbeats 1600000 in
set_option maxRecDepth 4000 in
theorem walk (w : World) (a0 : Option Addr) (n0 c0 : Nat) (A : Ar) (s : ByteArray) (h : ArrAt w a0 n0 A) (_w : s.size ≤ maxLen) :
    Calls Tryd.prog 4 #[.agg #[.slice a0 n0 c0], .string s] w fun e w' => e = .returned (.bool true) ∧ Below w.heap.size w w' := by
  obtain ⟨W, hW, hB, bx⟩ := aboxed c0 h
  have C1 := get_any a0 n0 c0 A s W bx.d
  have C2 := hid (fun wx (g : Below W.heap.size W wx) => got_any a0 n0 c0 A s wx (bx.below g).d)
  generalize str (getA A s).1 = S at C1 C2
  generalize (getA A s).2 = T at C1 C2
  rw [hW] at C1
  have H1 := hid C1
  have HE := hid hW
  have HB := hid (And.intro hB bx)
  clear hW hB bx C1 h
  go_enter Tryd.func4, Tryd.ntmps4
  go_wp2_with fail
  refine H1.out.mono ?_
  rintro e w1 ⟨rfl, g1⟩
  rw [← HE.out] at g1
  have d0 := (HB.out.2.below g1).b
  have G1 := hid g1
  clear g1 H1 HE
  go_wp2_with fail
  refine (C2.out _ G1.out).mono ?_
  rintro e w2 ⟨rfl, g2⟩
  have G := hid (bel3 (bel3 HB.out.1 G1.out) g2)
  clear g2 d0
  go_wp2
  go_ret
  exact ⟨ret_bool (by simp), G.out⟩

set_option maxRecDepth 100000 in
theorem lifted (os : Os) (started : os.Started) (H : Type) (enc : TypeId × Value → H) :
    ReturnsInHanded {} Tryd.checked os 4 .any (fun w args => (Rows.archiveGetsSpec.pre enc Tryd.prog Tryd.f4 Rows.archiveGetsRow.domain false w args ∧ laidMetH Tryd.prog Rows.archiveGetsRow.laid w) ∧ sizedMet enc Tryd.prog Tryd.f4 (OpenSpec.ofChange Rows.archiveGetsSpec) false w args)
      (Rows.archiveGetsSpec.post enc Tryd.prog Tryd.f4 false true false false) := by
  refine returnsInHanded_of_change_and (C := Tryd.checked) (X := fun w _ => laidMetH Tryd.prog Rows.archiveGetsRow.laid w) (fun _ _ _ hh h => h.of_heap hh) own started (by kernel_rfl) Tryd.func4
    (ChangeSpec.witness_shaped (enc := enc) (C := Tryd.checked) (os := os) (X := fun w _ => laidMetH Tryd.prog Rows.archiveGetsRow.laid w) false (World.laidAll Tryd.prog os Rows.archiveGetsRow.laid) #[.agg #[.slice none 0 0], .string ByteArray.empty] 8 (World.laidAll_os _ _ _)
      (World.shaped_of_ZipB (by kernel_rfl) (by kernel_rfl)) (by kernel_rfl) (by kernel_rfl) (by kernel_rfl)
      (by rw [MakeChecks.laidMetH_plain _ _ _ (by kernel_rfl)]; exact laidMet_laidAll _ (by kernel_rfl) (by kernel_rfl))) ?_
  intro W base args ds gs before hval0 hW hcnd _ _hL _
  have hval : ∀ (j : Nat) t v, Tryd.f4.params[j]? = some t → args[j]? = some v → Value.okWide Tryd.prog W .any base t v := hval0
  have hW' := hW
  obtain ⟨p, q, hA0, hV, rfl, hfz, hnd⟩ := hW
  have hA : DataW.TrodAll enc Tryd.prog W 0 (fun _ => true) true Tryd.f4.params.toList args.toList ds p := hA0
  rw [Tryd.params4] at hA hval
  obtain ⟨v0, vs0, d0, ds0, p0, q0, hargs, rfl, rfl, h0, r0⟩ := trodAll_cons hA
  obtain ⟨v1, vs1, d1, ds1, p1, q1, rfl, rfl, rfl, h1, r1⟩ := trodAll_cons r0
  obtain ⟨rfl, rfl, rfl⟩ := trodAll_nil r1
  obtain rfl : args = #[v0, v1] := by cases args; simp_all
  obtain ⟨rfl, rfl⟩ := trodVars_none hV
  have h0k := h0
  obtain ⟨a0, n0, c0, A0, rfl, w0, f0⟩ := open_arr (hval 0 24 v0 rfl rfl) h0
  have l0 : ∀ x ∈ p0, x.block < W.heap.size := fun x hx => hW'.lt x (by simp [hx])
  obtain ⟨a1, rfl, rfl, rfl, w1⟩ := open_string Tryd.underlying9 (hval 1 9 v1 rfl rfl) h1
  clear hA0 hval0
  refine (walk W a0 n0 c0 A0 a1 w0 w1).mono fun e W' ⟨he, bel⟩ => ?_
  subst he
  exact ⟨_, rfl, _, _, _, [], _, [], hW', trodAll_mk1 (shut_bool Tryd.underlying4 _), (trodAll_cons_mk (Below.trod laidOut (by kernel_rfl) (of_decide_eq_true (by kernel_rfl)) h0k bel l0) (trodAll_cons_mk (shut_string Tryd.underlying9 w1) trodAll_mk0)), rfl, bel.frame _, fun h => by cases h⟩

theorem over : Rows.archiveGetsRow.holds Tryd.pinned (OpenSpec.ofChange Rows.archiveGetsSpec) :=
  OpenClaim.holds_of_wide 4 Tryd.f4 rfl rfl rfl rfl rfl rfl rfl ⟨rfl, rfl, rfl, rfl, rfl⟩ rfl rfl rfl rfl rfl (by kernel_rfl) Tryd.func4 (by kernel_rfl)
    (of_decide_eq_true (by kernel_rfl)) (by unfold Func.isWrapper; first | (rw [if_pos (by decide +kernel)]; kernel_rfl) | (rw [if_neg (by decide +kernel)]; exact ⟨rfl, rfl⟩))
    (fun os started H enc _ => lifted os started H enc)
end Go.Proofs.YtkhjmfngeidlcaaDoor.archiveGets

namespace Go.Proofs.YtkhjmfngeidlcaaDoor
theorem archiveGets_holds : Rows.ArchiveGetsCardSaid :=
  Claim7.holds_tied_plain_at .later [] [.data, .pinned] true (true, "1ff65d621a2761661fc17256197467c30eb7e9f097047a49864ad30d1045f2dd") false
    archiveGets.over (fun _ h => by cases h) (by kernel_rfl) (fun _ h => by cases h) archiveGets_row_tie rfl ⟨rfl, rfl⟩ (by kernel_rfl) rfl
    (fun f fn hf hfn => by
      obtain rfl : f = 4 := Option.some.inj ((show Tryd.prog.funcNamed "arras/arraslaw.ArchiveGets" = some 4 by kernel_rfl).symm.trans hf) |>.symm
      obtain rfl : fn = Tryd.f4 := (Option.some.inj (Tryd.func4.symm.trans hfn)).symm
      exact ⟨by kernel_rfl, fun j t ht => by
        rw [Tryd.params4] at ht
        have hm : t ∈ [24, 9] := by simpa using Array.mem_of_getElem? ht
        have hall : ([24, 9].all fun u => !Tryd.prog.wantsStandIn u) = true := by kernel_rfl
        exact (show Tryd.prog.wantsStandIn t = false by simpa using List.all_eq_true.1 hall t hm)⟩)
    (by kernel_rfl)
#print axioms archiveGets_holds
end Go.Proofs.YtkhjmfngeidlcaaDoor
