/- For every number the program's archive.New answers the very array and the very error that P10.1 says; no condition. -/
import Derived.Test.YtkhjmfngeidlcaaRows
import Derived.Test.YtkhjmfngeidlcaaArcNew
import Derived.Test.YtkhjmfngeidlcaaArrRefNew
import Derived.Test.YtkhjmfngeidlcaaArrSame
import Derived.WalkKit
import Derived.ProofKit
import Derived.OpenShut
import Derived.ShutString
namespace Go.Proofs.Ytkhjmfngeidlcaa.archiveNews
open Go.ChangeShapes Go.WideShapes Go.ChangeAt Go.RowKit
open Go.ChangeMaps (open_string shut_string)

theorem own : ownKnob Try.prog.godebug = none := by kernel_rfl

set_option maxHeartbeats 800000 in
theorem walk (a0 : Int) (_w0 : (Lit.int .i64 a0).wf = true) (w : World) :
    Calls Try.prog 3 #[.int .i64 a0] w fun e w' => e = .returned (.bool true) ∧ Below w.heap.size w w' := by
  have HA := hid (fun wx => archnew_any a0 wx)
  have HR := hid (fun wx => aof_any a0 wx)
  generalize arNew a0 = r at HA HR
  go_enter Try.func3, Try.ntmps3
  go_wp2_with fail
  refine (HA.out _).mono ?_
  rintro _ w2 ⟨⟨x, n1, c1, rfl, hX⟩, g2⟩
  have hx := outA_at hX
  go_upto_region 2 with fail
  obtain ⟨W2, hW2, b2, xb⟩ := aboxed c1 hx
  rw [← hW2]
  have S2 := hid (And.intro (bel3 g2 b2) xb)
  clear hW2 g2 b2 xb hx hX HA
  generalize w2.heap.size = px at S2 ⊢
  go_wp2_with fail
  refine (HR.out _).mono ?_
  rintro _ w3 ⟨⟨y, n2, c2, rfl, hY⟩, g2⟩
  have hy := outA_at hY
  obtain rfl : n2 = n1 := by rw [hy.len, S2.out.2.d.len]
  go_upto_region 3 with fail
  obtain ⟨W3, hW3, b3, yb⟩ := aboxed c2 hy
  rw [← hW3]
  have S3 := hid (And.intro (bel3 (bel3 S2.out.1 g2) b3) (And.intro ((S2.out.2.below g2).below b3) yb))
  clear hW3 g2 b3 yb hy hY HR S2
  generalize w3.heap.size = py at S3 ⊢
  have d0 := S3.out.2.1.b
  have d1 := S3.out.2.2.b
  go_wp2_with fail
  refine (samearr_any _ _ _ _ _ r.1 _ S3.out.2.1.d S3.out.2.2.d).mono ?_
  rintro _ w4 ⟨rfl, g4⟩
  go_wp2
  go_ret
  exact ⟨rfl, bel3 S3.out.1 g4⟩

set_option maxRecDepth 100000 in
theorem lifted (os : Os) (started : os.Started) (H : Type) (enc : TypeId × Value → H) :
    ReturnsInHanded {} Try.checked os 3 .any (Rows.archiveNewsSpec.pre6 enc Try.prog Try.f3 Rows.archiveNewsRow.domain false) (Rows.archiveNewsSpec.post enc Try.prog Try.f3 false true false false) := by
  refine returnsInHanded_of_change (C := Try.checked) own started (by kernel_rfl) Try.func3
    (ChangeSpec.witness6 (enc := enc) (C := Try.checked) false ⟨#[], #[.int .i64 0], []⟩ 8 (by kernel_rfl) (by kernel_rfl) (by kernel_rfl) (by kernel_rfl)) ?_
  intro W base args ds gs before hval0 hW hcnd _
  have hval : ∀ (j : Nat) t v, Try.f3.params[j]? = some t → args[j]? = some v → Value.okWide Try.prog W .any base t v := hval0
  have hW' := hW
  obtain ⟨p, q, hA0, hV, rfl, hfz, hnd⟩ := hW
  have hA : DataW.TrodAll enc Try.prog W 0 (fun _ => true) true Try.f3.params.toList args.toList ds p := hA0
  rw [Try.params3] at hA hval
  obtain ⟨v0, vs0, d0, ds0, p0, q0, hargs, rfl, rfl, h0, r0⟩ := trodAll_cons hA
  obtain ⟨rfl, rfl, rfl⟩ := trodAll_nil r0
  obtain rfl : args = #[v0] := by cases args; simp_all
  obtain ⟨rfl, rfl⟩ := trodVars_none hV
  obtain ⟨a0, rfl, rfl, rfl, w0⟩ := open_int Try.underlying3 (hval 0 3 v0 rfl rfl) h0
  clear hA0 hval0
  refine (walk a0 w0 W).mono fun e W' ⟨he, bel⟩ => ?_
  subst he
  exact ⟨_, rfl, _, _, _, [], _, [], hW', trodAll_mk1 (shut_bool Try.underlying4 _), (trodAll_cons_mk (shut_int Try.underlying3 w0) trodAll_mk0), rfl, bel.frame _, fun h => by cases h⟩

theorem over : Rows.archiveNewsRow.holds Try.pinned (OpenSpec.ofChange Rows.archiveNewsSpec) :=
  OpenClaim.holds_of_wide 3 Try.f3 rfl rfl rfl rfl rfl rfl rfl ⟨rfl, rfl, rfl, rfl, rfl⟩ rfl rfl rfl rfl rfl (by kernel_rfl) Try.func3 (by kernel_rfl)
    (of_decide_eq_true (by kernel_rfl)) (by unfold Func.isWrapper; first | (rw [if_pos (by decide +kernel)]; kernel_rfl) | (rw [if_neg (by decide +kernel)]; exact ⟨rfl, rfl⟩))
    (fun os started H enc _ => lifted os started H enc)
end Go.Proofs.Ytkhjmfngeidlcaa.archiveNews

namespace Go.Proofs.Ytkhjmfngeidlcaa
theorem archiveNews_holds : Rows.ArchiveNewsSaid := archiveNews.over
#print axioms archiveNews_holds
end Go.Proofs.Ytkhjmfngeidlcaa
