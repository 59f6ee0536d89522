/- For every array (nil, empty, of whatever devices) the program's scrub.Health answers the very number, the very sectors and the very error that P7.2 says; what was handed in is left as it was; no condition. -/
import Derived.Test.YtpnmidkocmokeaaRows
import Derived.Test.YtpnmidkocmokeaaScrubHl
import Derived.Test.YtpnmidkocmokeaaScrubRefHl
import Derived.Test.YtpnmidkocmokeaaArrSame
import Derived.Test.YtpnmidkocmokeaaArrOpen
import Derived.WalkKit
import Derived.ProofKit
import Derived.OpenShut
import Derived.ShutString
namespace Go.Proofs.Ytpnmidkocmokeaa.scrubHealth
open Go.ChangeShapes Go.WideShapes Go.ChangeAt Go.RowKit
open Go.ChangeMaps (open_string shut_string)

theorem own : ownKnob Try.prog.godebug = none := by kernel_rfl
theorem laidOut : laidOutB Try.prog = true := by kernel_rfl

set_option maxHeartbeats 400000 in
theorem walk (w : World) (a : Option Addr) (n c : Nat) (A : Ar) (h : ArrAt w a n A) :
    Calls Try.prog 4 #[.agg #[.slice a n c]] w fun e w' => e = .returned (.bool true) ∧ Below w.heap.size w w' := by
  obtain ⟨W, hW, hB, bx⟩ := aboxed c h
  have h1 := health_any a n c A W bx.d
  have h2 := fun wx (g : Below W.heap.size W wx) => refhealth_any a n c A wx (bx.below g).d
  generalize arHealth A = r at h1 h2
  rw [hW] at h1
  have H1 := hid h1
  have H2 := hid h2
  have HE := hid hW
  have HP := hid (And.intro hB bx)
  clear h1 h2 hW hB bx h
  go_enter Try.func4, Try.ntmps4
  go_wp2_with fail
  refine H1.out.mono ?_
  rintro _ w1 ⟨⟨a1, n1, c1, rfl, i1⟩, g1⟩
  rw [← HE.out] at g1
  have d0 := (HP.out.2.below g1).b
  have S1 := hid (And.intro i1 g1)
  clear i1 g1
  go_wp2_with fail
  refine (H2.out _ S1.out.2).mono ?_
  rintro _ w2 ⟨⟨a2, n2, c2, rfl, i2⟩, g2⟩
  obtain rfl : n2 = n1 := by rw [i2.sn, S1.out.1.sn]
  have S2 := hid (And.intro (S1.out.1.below g2) (And.intro i2 (bel3 S1.out.2 g2)))
  clear i2 g2 d0
  go_wp2_with fail
  refine (sameints_any a1 n2 c1 a2 c2 _ w2 S2.out.1 S2.out.2.1).mono ?_
  rintro _ w3 ⟨rfl, g3⟩
  go_wp2
  go_ret
  exact ⟨rfl, bel3 (bel3 HP.out.1 S2.out.2.2) g3⟩

set_option maxRecDepth 100000 in
theorem lifted (os : Os) (started : os.Started) (H : Type) (enc : TypeId × Value → H) :
    ReturnsInHanded {} Try.checked os 4 .any (Rows.scrubHealthSpec.pre6 enc Try.prog Try.f4 Rows.scrubHealthRow.domain false) (Rows.scrubHealthSpec.post enc Try.prog Try.f4 false true false false) := by
  refine returnsInHanded_of_change (C := Try.checked) own started (by kernel_rfl) Try.func4
    (ChangeSpec.witness6 (enc := enc) (C := Try.checked) false ⟨#[], #[.agg #[.slice none 0 0]], []⟩ 8 (by kernel_rfl) (by kernel_rfl) (by kernel_rfl) (by kernel_rfl)) ?_
  intro W base args ds gs before hval0 hW hcnd _
  have hval : ∀ (j : Nat) t v, Try.f4.params[j]? = some t → args[j]? = some v → Value.okWide Try.prog W .any base t v := hval0
  have hW' := hW
  obtain ⟨p, q, hA0, hV, rfl, hfz, hnd⟩ := hW
  have hA : DataW.TrodAll enc Try.prog W 0 (fun _ => true) true Try.f4.params.toList args.toList ds p := hA0
  rw [Try.params4] at hA hval
  obtain ⟨v0, vs0, d0, ds0, p0, q0, hargs, rfl, rfl, h0, r0⟩ := trodAll_cons hA
  obtain ⟨rfl, rfl, rfl⟩ := trodAll_nil r0
  obtain rfl : args = #[v0] := by cases args; simp_all
  obtain ⟨rfl, rfl⟩ := trodVars_none hV
  have h0k := h0
  obtain ⟨a0, n0, c0, A0, rfl, w0, f0⟩ := open_arr (hval 0 24 v0 rfl rfl) h0
  have l0 : ∀ x ∈ p0, x.block < W.heap.size := fun x hx => hW'.lt x (by simp [hx])
  clear hA0 hval0
  refine (walk W a0 n0 c0 A0 w0).mono fun e W' ⟨he, bel⟩ => ?_
  subst he
  exact ⟨_, rfl, _, _, _, [], _, [], hW', trodAll_mk1 (shut_bool Try.underlying4 _), (trodAll_cons_mk (Below.trod laidOut (by kernel_rfl) (of_decide_eq_true (by kernel_rfl)) h0k bel l0) trodAll_mk0), rfl, bel.frame _, fun h => by cases h⟩

theorem over : Rows.scrubHealthRow.holds Try.pinned (OpenSpec.ofChange Rows.scrubHealthSpec) :=
  OpenClaim.holds_of_wide 4 Try.f4 rfl rfl rfl rfl rfl rfl rfl ⟨rfl, rfl, rfl, rfl, rfl⟩ rfl rfl rfl rfl rfl (by kernel_rfl) Try.func4 (by kernel_rfl)
    (of_decide_eq_true (by kernel_rfl)) (by unfold Func.isWrapper; first | (rw [if_pos (by decide +kernel)]; kernel_rfl) | (rw [if_neg (by decide +kernel)]; exact ⟨rfl, rfl⟩))
    (fun os started H enc _ => lifted os started H enc)
end Go.Proofs.Ytpnmidkocmokeaa.scrubHealth

namespace Go.Proofs.Ytpnmidkocmokeaa
theorem scrubHealth_holds : Rows.ScrubHealthSaid := scrubHealth.over
#print axioms scrubHealth_holds
end Go.Proofs.Ytpnmidkocmokeaa
