/- For every device (nil, empty, of whatever lists) the program's device.Check answers OK if the device may be, as P4.1 says, else ErrState; the device is left as it was; no condition. -/
import Derived.Test.YtbckalbnmfejbabRows
import Derived.Test.YtbckalbnmfejbabDevCheck
import Derived.Test.YtbckalbnmfejbabDevMay
import Derived.Test.YtbckalbnmfejbabDevOpen
import Derived.Test.YtbckalbnmfejbabDevBox
import Derived.WalkKit
import Derived.ProofKit
import Derived.OpenShut
import Derived.ShutString
namespace Go.Proofs.Ytbckalbnmfejbab.deviceChecks
open Go.ChangeShapes Go.WideShapes Go.ChangeAt Go.RowKit
open Go.ChangeMaps (open_string shut_string)

theorem own : ownKnob Try.prog.godebug = none := by kernel_rfl
theorem laidOut : laidOutB Try.prog = true := by kernel_rfl

set_option maxHeartbeats 400000 in
theorem walk (w : World) (a : Option Addr) (n c : Nat) (a' : Option Addr) (m c' : Nat) (D : Dv) (h : DevAt w a n a' m D) :
    Calls Try.prog 6 #[.agg #[.slice a n c, .slice a' m c']] w fun e w' => e = .returned (.bool true) ∧ Below w.heap.size w w' := by
  obtain ⟨W, hW⟩ : ∃ W, W = w.alloc (.cells #[.slice a n c, .slice a' m c'] 29) := ⟨_, rfl⟩
  have hB : Below w.heap.size w W := by rw [hW]; exact (Below.refl _ w).alloc (Nat.le_refl _) _
  have bd : Box2 W w.heap.size (.slice a n c) (.slice a' m c') := by rw [hW]; exact box2_of (Own.made w 29 [.slice a n c, .slice a' m c'])
  have h1 := check_any a n c a' m c' D W (h.below hB)
  have h2 := fun wx (g : Below W.heap.size W wx) => may_any a n c a' m c' D wx ((h.below hB).below g)
  unfold dvChk at h1
  generalize dvMay D = r at h1 h2
  rw [hW] at h1
  have HE := hid hW
  have HP := hid (And.intro hB bd)
  have H2 := hid h2
  clear hW hB bd h h2
  cases r with
  | true =>
    rw [if_pos rfl] at h1
    have H1 := hid h1
    clear h1
    go_enter Try.func6, Try.ntmps6
    go_wp2_with fail
    refine H1.out.mono ?_
    rintro e w1 ⟨rfl, g1⟩
    rw [← HE.out] at g1
    have b1 := HP.out.2.below g1
    have d0 := b1.c0
    have d1 := b1.c1
    clear b1
    go_wp2_with fail
    refine (H2.out _ g1).mono ?_
    rintro e w2 ⟨rfl, g2⟩
    go_wp2
    go_ret
    exact ⟨rfl, HP.out.1.trans ((g1.trans (g2.mono g1.size)).mono HP.out.1.size)⟩
  | false =>
    rw [if_neg (by decide)] at h1
    have H1 := hid h1
    clear h1
    go_enter Try.func6, Try.ntmps6
    go_wp2_with fail
    refine H1.out.mono ?_
    rintro e w1 ⟨rfl, g1⟩
    rw [← HE.out] at g1
    have b1 := HP.out.2.below g1
    have d0 := b1.c0
    have d1 := b1.c1
    clear b1
    go_wp2_with fail
    refine (H2.out _ g1).mono ?_
    rintro e w2 ⟨rfl, g2⟩
    go_wp2
    go_ret
    exact ⟨rfl, HP.out.1.trans ((g1.trans (g2.mono g1.size)).mono HP.out.1.size)⟩

set_option maxRecDepth 100000 in
theorem lifted (os : Os) (started : os.Started) (H : Type) (enc : TypeId × Value → H) :
    ReturnsInHanded {} Try.checked os 6 .any (Rows.deviceChecksSpec.pre6 enc Try.prog Try.f6 Rows.deviceChecksRow.domain false) (Rows.deviceChecksSpec.post enc Try.prog Try.f6 false true false false) := by
  refine returnsInHanded_of_change (C := Try.checked) own started (by kernel_rfl) Try.func6
    (ChangeSpec.witness6 (enc := enc) (C := Try.checked) false ⟨#[], #[.agg #[.slice none 0 0, .slice none 0 0]], []⟩ 8 (by kernel_rfl) (by kernel_rfl) (by kernel_rfl) (by kernel_rfl)) ?_
  intro W base args ds gs before hval0 hW hcnd _
  have hval : ∀ (j : Nat) t v, Try.f6.params[j]? = some t → args[j]? = some v → Value.okWide Try.prog W .any base t v := hval0
  have hW' := hW
  obtain ⟨p, q, hA0, hV, rfl, hfz, hnd⟩ := hW
  have hA : DataW.TrodAll enc Try.prog W 0 (fun _ => true) true Try.f6.params.toList args.toList ds p := hA0
  rw [Try.params6] at hA hval
  obtain ⟨v0, vs0, d0, ds0, p0, q0, hargs, rfl, rfl, h0, r0⟩ := trodAll_cons hA
  obtain ⟨rfl, rfl, rfl⟩ := trodAll_nil r0
  obtain rfl : args = #[v0] := by cases args; simp_all
  obtain ⟨rfl, rfl⟩ := trodVars_none hV
  have h0k := h0
  obtain ⟨a0, n0, c0, b0, m0, k0, D0, rfl, w0, f0⟩ := open_dev (hval 0 29 v0 rfl rfl) h0
  have l0 : ∀ x ∈ p0, x.block < W.heap.size := fun x hx => hW'.lt x (by simp [hx])
  clear hA0 hval0
  refine (walk W a0 n0 c0 b0 m0 k0 D0 w0).mono fun e W' ⟨he, bel⟩ => ?_
  subst he
  exact ⟨_, rfl, _, _, _, [], _, [], hW', trodAll_mk1 (shut_bool Try.underlying4 _), (trodAll_cons_mk (Below.trod laidOut (by kernel_rfl) (of_decide_eq_true (by kernel_rfl)) h0k bel l0) trodAll_mk0), rfl, bel.frame _, fun h => by cases h⟩

theorem over : Rows.deviceChecksRow.holds Try.pinned (OpenSpec.ofChange Rows.deviceChecksSpec) :=
  OpenClaim.holds_of_wide 6 Try.f6 rfl rfl rfl rfl rfl rfl rfl ⟨rfl, rfl, rfl, rfl, rfl⟩ rfl rfl rfl rfl rfl (by kernel_rfl) Try.func6 (by kernel_rfl)
    (of_decide_eq_true (by kernel_rfl)) (by unfold Func.isWrapper; first | (rw [if_pos (by decide +kernel)]; kernel_rfl) | (rw [if_neg (by decide +kernel)]; exact ⟨rfl, rfl⟩))
    (fun os started H enc _ => lifted os started H enc)
end Go.Proofs.Ytbckalbnmfejbab.deviceChecks

namespace Go.Proofs.Ytbckalbnmfejbab
theorem deviceChecks_holds : Rows.DeviceChecksSaid := deviceChecks.over
#print axioms deviceChecks_holds
end Go.Proofs.Ytbckalbnmfejbab
