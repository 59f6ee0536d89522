/- For every array (nil, empty, of whatever devices) the program's array.Copy answers the same array; the array is left as it was; no condition. -/
import Derived.Test.YtbjnaielicnfhaaRows
import Derived.Test.YtbjnaielicnfhaaArrCopy
import Derived.Test.YtbjnaielicnfhaaArrSame
import Derived.Test.YtbjnaielicnfhaaArrOpen
import Derived.WalkKit
import Derived.ProofKit
import Derived.OpenShut
import Derived.ShutString
namespace Go.Proofs.Ytbjnaielicnfhaa.arrayCopies
open Go.ChangeShapes Go.WideShapes Go.ChangeAt Go.RowKit
open Go.ChangeMaps (open_string shut_string)

theorem own : ownKnob Try.prog.godebug = none := by kernel_rfl
theorem laidOut : laidOutB Try.prog = true := by kernel_rfl

set_option maxHeartbeats 400000 in
theorem walk (w : World) (a : Option Addr) (n c : Nat) (A : Ar) (h : ArrAt w a n A ∧ ArrFits n A) :
    Calls Try.prog 5 #[.agg #[.slice a n c]] w fun e w' => e = .returned (.bool true) ∧ Below w.heap.size w w' := by
  obtain ⟨h, fit⟩ := h
  obtain ⟨W, hW, hB, bx⟩ := aboxed c h
  have h1 := arcopy_any a n c A W bx.d fit
  rw [hW] at h1
  have HE := hid hW
  have HP := hid (And.intro hB bx)
  have H1 := hid h1
  clear hW hB bx h h1 fit
  go_enter Try.func5, Try.ntmps5
  go_wp2_with fail
  refine H1.out.mono ?_
  rintro _ w2 ⟨x, c1, rfl, hX, g2⟩
  rw [← HE.out] at g2
  have hx := outC_at hX
  go_upto_region 2 with fail
  obtain ⟨W2, hW2, b2, xb⟩ := aboxed c1 hx
  rw [← hW2]
  have S2 := hid (And.intro (bel3 (bel3 HP.out.1 g2) b2) (And.intro xb ((HP.out.2.below g2).below b2)))
  clear hW2 g2 b2 xb hx hX H1
  generalize w2.heap.size = px at S2 ⊢
  have d0 := S2.out.2.1.b
  have d1 := S2.out.2.2.b
  go_wp2_with fail
  refine (samearr_any _ _ _ _ _ A _ S2.out.2.2.d S2.out.2.1.d).mono ?_
  rintro _ w4 ⟨rfl, g4⟩
  go_wp2
  go_ret
  exact ⟨rfl, bel3 S2.out.1 g4⟩

set_option maxRecDepth 100000 in
theorem lifted (os : Os) (started : os.Started) (H : Type) (enc : TypeId × Value → H) :
    ReturnsInHanded {} Try.checked os 5 .any (Rows.arrayCopiesSpec.pre6 enc Try.prog Try.f5 Rows.arrayCopiesRow.domain false) (Rows.arrayCopiesSpec.post enc Try.prog Try.f5 false true false false) := by
  refine returnsInHanded_of_change_sized (C := Try.checked) own started (by kernel_rfl) Try.func5
    (ChangeSpec.witness6 (enc := enc) (C := Try.checked) false ⟨#[], #[.agg #[.slice none 0 0]], []⟩ 8 (by kernel_rfl) (by kernel_rfl) (by kernel_rfl) (by kernel_rfl)) ?_
  intro W base args ds gs before hval0 hW hcnd hsz0 _
  have hsz : (DataW.weightsEach Try.prog (Try.f5.params.toList ++ Rows.arrayCopiesSpec.plain.varTypes Try.prog) (ds ++ gs)).all (· ≤ reachBytes) = true := hsz0
  have hval : ∀ (j : Nat) t v, Try.f5.params[j]? = some t → args[j]? = some v → Value.okWide Try.prog W .any base t v := hval0
  have hW' := hW
  obtain ⟨p, q, hA0, hV, rfl, hfz, hnd⟩ := hW
  have hA : DataW.TrodAll enc Try.prog W 0 (fun _ => true) true Try.f5.params.toList args.toList ds p := hA0
  rw [Try.params5] at hA hval hsz
  obtain ⟨v0, vs0, d0, ds0, p0, q0, hargs, rfl, rfl, h0, r0⟩ := trodAll_cons hA
  obtain ⟨rfl, rfl, rfl⟩ := trodAll_nil r0
  obtain rfl : args = #[v0] := by cases args; simp_all
  obtain ⟨rfl, rfl⟩ := trodVars_none hV
  have h0k := h0
  obtain ⟨a0, n0, c0, A0, rfl, w0, f0⟩ := open_arr (hval 0 24 v0 rfl rfl) h0
  have l0 : ∀ x ∈ p0, x.block < W.heap.size := fun x hx => hW'.lt x (by simp [hx])
  clear hA0 hval0
  refine (walk W a0 n0 c0 A0 (And.intro w0 (f0 (fun x hx => weights_in hsz (j := 0) (t := 24) rfl rfl hx)))).mono fun e W' ⟨he, bel⟩ => ?_
  subst he
  exact ⟨_, rfl, _, _, _, [], _, [], hW', trodAll_mk1 (shut_bool Try.underlying4 _), (trodAll_cons_mk (Below.trod laidOut (by kernel_rfl) (of_decide_eq_true (by kernel_rfl)) h0k bel l0) trodAll_mk0), rfl, bel.frame _, fun h => by cases h⟩

theorem over : Rows.arrayCopiesRow.holds Try.pinned (OpenSpec.ofChange Rows.arrayCopiesSpec) :=
  OpenClaim.holds_of_wide 5 Try.f5 rfl rfl rfl rfl rfl rfl rfl ⟨rfl, rfl, rfl, rfl, rfl⟩ rfl rfl rfl rfl rfl (by kernel_rfl) Try.func5 (by kernel_rfl)
    (of_decide_eq_true (by kernel_rfl)) (by unfold Func.isWrapper; first | (rw [if_pos (by decide +kernel)]; kernel_rfl) | (rw [if_neg (by decide +kernel)]; exact ⟨rfl, rfl⟩))
    (fun os started H enc _ => lifted os started H enc)
end Go.Proofs.Ytbjnaielicnfhaa.arrayCopies

namespace Go.Proofs.Ytbjnaielicnfhaa
theorem arrayCopies_holds : Rows.ArrayCopiesSaid := arrayCopies.over
#print axioms arrayCopies_holds
end Go.Proofs.Ytbjnaielicnfhaa
