/- For every two numbers the program's device.New answers the very device and the very error that P4.1 says; no condition. -/
import Derived.Test.YtbckalbnmfejbabRows
import Derived.Test.YtbckalbnmfejbabDevNew
import Derived.Test.YtbckalbnmfejbabDevRefNew
import Derived.Test.YtbckalbnmfejbabDevSame
import Derived.WalkKit
import Derived.ProofKit
import Derived.OpenShut
import Derived.ShutString
namespace Go.Proofs.Ytbckalbnmfejbab.deviceNews
open Go.ChangeShapes Go.WideShapes Go.ChangeAt Go.RowKit
open Go.ChangeMaps (open_string shut_string)

theorem own : ownKnob Try.prog.godebug = none := by kernel_rfl

set_option maxHeartbeats 800000 in
theorem walk (a0 a1 : Int) (_w0 : (Lit.int .i64 a0).wf = true) (_w1 : (Lit.int .i64 a1).wf = true) (w : World) :
    Calls Try.prog 5 #[.int .i64 a0, .int .i64 a1] w fun e w' => e = .returned (.bool true) ∧ Below w.heap.size w w' := by
  have HA := hid (fun wx => new_any a0 a1 wx)
  have HR := hid (fun wx => of_dev a0 a1 wx)
  generalize dvNew a0 a1 = r at HA HR
  go_enter Try.func5, Try.ntmps5
  go_wp2_with fail
  refine (HA.out _).mono ?_
  rintro _ w2 ⟨x, n1, e1, x', m1, e2, rfl, hX, _, g2⟩
  go_upto_region 2 with fail
  obtain ⟨W2, hW2⟩ : ∃ W2, W2 = w2.alloc (.cells #[.slice x n1 e1, .slice x' m1 e2] 29) := ⟨_, rfl⟩
  have b2 : Below w2.heap.size w2 W2 := by rw [hW2]; exact (Below.refl _ w2).alloc (Nat.le_refl _) _
  have xb : Box2 W2 w2.heap.size (.slice x n1 e1) (.slice x' m1 e2) := by rw [hW2]; exact box2_of (Own.made w2 29 [.slice x n1 e1, .slice x' m1 e2])
  rw [← hW2]
  clear hW2
  have S2 := hid (And.intro (g2.trans (b2.mono g2.size)) (And.intro xb (hX.below b2)))
  clear g2 b2 xb hX HA
  generalize w2.heap.size = px at S2 ⊢
  go_wp2_with fail
  refine (HR.out _).mono ?_
  rintro _ w3 ⟨y, n2, e3, y', m2, e4, rfl, hY, _, g2⟩
  obtain rfl : n2 = n1 := by rw [hY.sn, S2.out.2.2.sn]
  obtain rfl : m2 = m1 := by rw [hY.sm, S2.out.2.2.sm]
  go_upto_region 3 with fail
  obtain ⟨W3, hW3⟩ : ∃ W3, W3 = w3.alloc (.cells #[.slice y n2 e3, .slice y' m2 e4] 29) := ⟨_, rfl⟩
  have b2 : Below w3.heap.size w3 W3 := by rw [hW3]; exact (Below.refl _ w3).alloc (Nat.le_refl _) _
  have yb : Box2 W3 w3.heap.size (.slice y n2 e3) (.slice y' m2 e4) := by rw [hW3]; exact box2_of (Own.made w3 29 [.slice y n2 e3, .slice y' m2 e4])
  rw [← hW3]
  clear hW3
  have g3 := g2.trans (b2.mono g2.size)
  have xb := S2.out.2.1.below g3
  have S3 := hid (And.intro (S2.out.1.trans (g3.mono S2.out.1.size)) (And.intro (S2.out.2.2.below g3) (hY.below b2)))
  have d0 := xb.c0
  have d1 := xb.c1
  have d2 := yb.c0
  have d3 := yb.c1
  clear g2 b2 yb hY g3 S2 HR xb
  generalize w3.heap.size = py at d2 d3 ⊢
  go_wp2_with fail
  refine (same_any _ _ _ _ _ _ _ _ _ _ r.1 _ S3.out.2.1 S3.out.2.2).mono ?_
  rintro _ w4 ⟨rfl, g4⟩
  go_wp2
  go_ret
  exact ⟨rfl, S3.out.1.trans (g4.mono S3.out.1.size)⟩

set_option maxRecDepth 100000 in
theorem lifted (os : Os) (started : os.Started) (H : Type) (enc : TypeId × Value → H) :
    ReturnsInHanded {} Try.checked os 5 .any (Rows.deviceNewsSpec.pre6 enc Try.prog Try.f5 Rows.deviceNewsRow.domain false) (Rows.deviceNewsSpec.post enc Try.prog Try.f5 false true false false) := by
  refine returnsInHanded_of_change (C := Try.checked) own started (by kernel_rfl) Try.func5
    (ChangeSpec.witness6 (enc := enc) (C := Try.checked) false ⟨#[], #[.int .i64 0, .int .i64 0], []⟩ 8 (by kernel_rfl) (by kernel_rfl) (by kernel_rfl) (by kernel_rfl)) ?_
  intro W base args ds gs before hval0 hW hcnd _
  have hval : ∀ (j : Nat) t v, Try.f5.params[j]? = some t → args[j]? = some v → Value.okWide Try.prog W .any base t v := hval0
  have hW' := hW
  obtain ⟨p, q, hA0, hV, rfl, hfz, hnd⟩ := hW
  have hA : DataW.TrodAll enc Try.prog W 0 (fun _ => true) true Try.f5.params.toList args.toList ds p := hA0
  rw [Try.params5] at hA hval
  obtain ⟨v0, vs0, d0, ds0, p0, q0, hargs, rfl, rfl, h0, r0⟩ := trodAll_cons hA
  obtain ⟨v1, vs1, d1, ds1, p1, q1, rfl, rfl, rfl, h1, r1⟩ := trodAll_cons r0
  obtain ⟨rfl, rfl, rfl⟩ := trodAll_nil r1
  obtain rfl : args = #[v0, v1] := by cases args; simp_all
  obtain ⟨rfl, rfl⟩ := trodVars_none hV
  obtain ⟨a0, rfl, rfl, rfl, w0⟩ := open_int Try.underlying3 (hval 0 3 v0 rfl rfl) h0
  obtain ⟨a1, rfl, rfl, rfl, w1⟩ := open_int Try.underlying3 (hval 1 3 v1 rfl rfl) h1
  clear hA0 hval0
  refine (walk a0 a1 w0 w1 W).mono fun e W' ⟨he, bel⟩ => ?_
  subst he
  exact ⟨_, rfl, _, _, _, [], _, [], hW', trodAll_mk1 (shut_bool Try.underlying4 _), (trodAll_cons_mk (shut_int Try.underlying3 w0) (trodAll_cons_mk (shut_int Try.underlying3 w1) trodAll_mk0)), rfl, bel.frame _, fun h => by cases h⟩

theorem over : Rows.deviceNewsRow.holds Try.pinned (OpenSpec.ofChange Rows.deviceNewsSpec) :=
  OpenClaim.holds_of_wide 5 Try.f5 rfl rfl rfl rfl rfl rfl rfl ⟨rfl, rfl, rfl, rfl, rfl⟩ rfl rfl rfl rfl rfl (by kernel_rfl) Try.func5 (by kernel_rfl)
    (of_decide_eq_true (by kernel_rfl)) (by unfold Func.isWrapper; first | (rw [if_pos (by decide +kernel)]; kernel_rfl) | (rw [if_neg (by decide +kernel)]; exact ⟨rfl, rfl⟩))
    (fun os started H enc _ => lifted os started H enc)
end Go.Proofs.Ytbckalbnmfejbab.deviceNews

namespace Go.Proofs.Ytbckalbnmfejbab
theorem deviceNews_holds : Rows.DeviceNewsSaid := deviceNews.over
#print axioms deviceNews_holds
end Go.Proofs.Ytbckalbnmfejbab
