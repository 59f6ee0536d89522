/- For every array (nil, empty, of whatever devices), every cursor and every number the program's scrub.Step answers the very array, the very cursor, the very number, the very sectors and the very error that P7.1 says; what was handed in is left as it was; no condition. -/
import Derived.Test.YtpnmidkocmokeaaRows
import Derived.Test.YtpnmidkocmokeaaScrubStep
import Derived.Test.YtpnmidkocmokeaaScrubRef
import Derived.Test.YtpnmidkocmokeaaArrRefCopy
import Derived.Test.YtpnmidkocmokeaaArrSame
import Derived.Test.YtpnmidkocmokeaaArrOpen
import Derived.WalkKit
import Derived.ProofKit
import Derived.OpenShut
import Derived.ShutString
namespace Go.Proofs.Ytpnmidkocmokeaa.scrubSteps
open Go.ChangeShapes Go.WideShapes Go.ChangeAt Go.RowKit Go.Deep
open Go.ChangeMaps (open_string shut_string)

theorem own : ownKnob Try.prog.godebug = none := by kernel_rfl
theorem laidOut : laidOutB Try.prog = true := by kernel_rfl

set_option maxRecDepth 20000 in
/-- A cursor that comes in. -/
theorem open_cur {H : Type} {enc : TypeId × Value → H} {W : World} {base : Nat} {v : Value} {d : DataW H} {p : List MemPlace} (hval : Value.okWide Try.prog W .any base 26 v) (h : DataW.Trod enc Try.prog W 0 (fun _ => true) true 26 v d p) :
    ∃ (x r : Int), v = .agg #[.int .i64 x, .int .i64 r] ∧ ((Lit.int .i64 x).wf = true ∧ (Lit.int .i64 r).wf = true) ∧ True := by
  obtain ⟨cs, rfl, hcs⟩ := okWide_struct Try.underlying26 hval
  rw [show Try.prog.cellsOf 26 = 2 by kernel_rfl] at hcs
  obtain ⟨fuel, hf⟩ := h
  obtain ⟨y0, y1, k, hx, _, t0, t1⟩ := trod_struct2 Try.underlying26 hf
  obtain ⟨u0, u1, rfl⟩ : ∃ u0 u1, cs = #[u0, u1] := by
    obtain ⟨l⟩ := cs
    match l, hcs with
    | [u0, u1], _ => exact ⟨u0, u1, rfl⟩
  have g0 : DataW.trod enc Try.prog W 0 (fun _ => true) true k 3 [u0] = some y0 := t0
  have g1 : DataW.trod enc Try.prog W 0 (fun _ => true) true k 3 [u1] = some y1 := t1
  obtain ⟨n0, q0, _, w0⟩ := DataW.trod_int Try.underlying3 g0
  obtain ⟨n1, q1, _, w1⟩ := DataW.trod_int Try.underlying3 g1
  cases q0
  cases q1
  exact ⟨n0, n1, rfl, ⟨w0, w1⟩, trivial⟩

set_option maxHeartbeats 1600000 in
set_option maxRecDepth 4000 in
theorem walk (w : World) (a : Option Addr) (n c : Nat) (A : Ar) (x r m : Int) (h : ArrAt w a n A ∧ ArrFits n A) (_h1 : (Lit.int .i64 x).wf = true ∧ (Lit.int .i64 r).wf = true) (_h2 : (Lit.int .i64 m).wf = true) :
    Calls Try.prog 3 #[.agg #[.slice a n c], .agg #[.int .i64 x, .int .i64 r], .int .i64 m] w fun e w' => e = .returned (.bool true) ∧ Below w.heap.size w w' := by
  obtain ⟨h, fit⟩ := h
  obtain ⟨W0, hW0, hB0, bx0⟩ := aboxed c h
  obtain ⟨W, hW⟩ : ∃ W, W = W0.alloc (.cells #[.int .i64 x, .int .i64 r] 26) := ⟨_, rfl⟩
  have hB1 : Below W0.heap.size W0 W := by rw [hW]; exact (Below.refl _ W0).alloc (Nat.le_refl _) _
  have hz0 : W0.heap.size = w.heap.size + 1 := by rw [hW0]; simp
  have cb : Box2 W (w.heap.size + 1) (.int .i64 x) (.int .i64 r) := by rw [hW, ← hz0]; exact box2_of (Own.made W0 26 [.int .i64 x, .int .i64 r])
  have bx := bx0.below hB1
  have hC := acopy_any a n c A W bx.d fit
  rw [hW, hW0] at hC
  have HE := hid (show W = (w.alloc (.cells #[.slice a n c] 24)).alloc (.cells #[.int .i64 x, .int .i64 r] 26) by rw [hW, hW0])
  have HC := hid hC
  have HA := hid (fun (b : Option Addr) (n c : Nat) (wx : World) (hx : ArrAt wx b n A) => step_any b n c A x r m wx hx)
  have HR := hid (fun (b : Option Addr) (n c : Nat) (wx : World) (hx : ArrAt wx b n A) => refstep_any b n c A x r m wx hx)
  generalize arStep A x r m = R at HA HR
  have HD := hid (And.intro (bel3 hB0 hB1) (And.intro bx cb))
  clear hC hW hW0 hB0 hB1 bx bx0 h fit hz0 cb
  go_enter Try.func3, Try.ntmps3
  go_wp2_with fail
  refine HC.out.mono ?_
  rintro _ w1 ⟨ao, c1, rfl, hK, g1⟩
  rw [← HE.out] at g1
  have k1 := outC_at hK
  go_upto_region 2 with fail
  obtain ⟨W1, hW1, b1, kb⟩ := aboxed c1 k1
  rw [← hW1]
  have g1' := bel3 g1 b1
  have S1 := hid (And.intro (bel3 HD.out.1 g1') (And.intro (HD.out.2.1.below g1') (And.intro (HD.out.2.2.below g1') kb)))
  clear hW1 hK g1 g1' b1 kb k1 HC
  generalize w1.heap.size = pk at S1 ⊢
  have d0 := S1.out.2.2.2.b
  have d1 := S1.out.2.2.1.c0
  have d2 := S1.out.2.2.1.c1
  go_wp2_with fail
  refine (HA.out _ _ _ _ S1.out.2.2.2.d).mono ?_
  rintro _ w2 ⟨⟨x1, n1, e1, a2, n2, e2, rfl, hX, hI⟩, g2⟩
  clear d0 d1 d2
  go_upto_region 3 with fail
  obtain ⟨V2, hV2, v2, xb⟩ := aboxed e1 hX
  obtain ⟨W2, hW2⟩ : ∃ W2, W2 = V2.alloc (.cells #[.int .i64 R.nx, .int .i64 R.rd] 26) := ⟨_, rfl⟩
  have b2 : Below V2.heap.size V2 W2 := by rw [hW2]; exact (Below.refl _ V2).alloc (Nat.le_refl _) _
  have hz2 : V2.heap.size = w2.heap.size + 1 := by rw [hV2]; simp
  have cb2 : Box2 W2 (w2.heap.size + 1) (.int .i64 R.nx) (.int .i64 R.rd) := by rw [hW2, ← hz2]; exact box2_of (Own.made V2 26 [.int .i64 R.nx, .int .i64 R.rd])
  rw [← hV2, ← hW2]
  have g3 := bel3 g2 (bel3 v2 b2)
  have S2 := hid (And.intro (bel3 S1.out.1 g3) (And.intro (S1.out.2.1.below g3) (And.intro (S1.out.2.2.1.below g3) (And.intro (S1.out.2.2.2.below g3) (And.intro (xb.below b2) (And.intro cb2 (hI.below (bel3 v2 b2))))))))
  clear hV2 hW2 g2 b2 v2 xb hX hI g3 S1 HA hz2 cb2
  generalize w2.heap.size = px at S2 ⊢
  generalize px + 1 = px' at S2 ⊢
  have d0 := S2.out.2.1.b
  have d1 := S2.out.2.2.1.c0
  have d2 := S2.out.2.2.1.c1
  go_wp2_with fail
  refine (HR.out _ _ _ _ S2.out.2.1.d).mono ?_
  rintro _ w3 ⟨⟨y1, m1, f1, b2, m2, f2, rfl, hY, hJ⟩, g2⟩
  obtain rfl : m1 = n1 := by rw [hY.len, S2.out.2.2.2.2.1.d.len]
  obtain rfl : m2 = n2 := by rw [hJ.sn, S2.out.2.2.2.2.2.2.sn]
  clear d0 d1 d2
  go_upto_region 4 with fail
  obtain ⟨V3, hV3, v3, yb⟩ := aboxed f1 hY
  obtain ⟨W3, hW3⟩ : ∃ W3, W3 = V3.alloc (.cells #[.int .i64 R.nx, .int .i64 R.rd] 26) := ⟨_, rfl⟩
  have b3 : Below V3.heap.size V3 W3 := by rw [hW3]; exact (Below.refl _ V3).alloc (Nat.le_refl _) _
  have hz3 : V3.heap.size = w3.heap.size + 1 := by rw [hV3]; simp
  have cb3 : Box2 W3 (w3.heap.size + 1) (.int .i64 R.nx) (.int .i64 R.rd) := by rw [hW3, ← hz3]; exact box2_of (Own.made V3 26 [.int .i64 R.nx, .int .i64 R.rd])
  rw [← hV3, ← hW3]
  have g3 := bel3 g2 (bel3 v3 b3)
  have S3 := hid (And.intro (bel3 S2.out.1 g3) (And.intro (S2.out.2.1.below g3) (And.intro (S2.out.2.2.2.1.below g3) (And.intro (S2.out.2.2.2.2.1.below g3) (And.intro (S2.out.2.2.2.2.2.1.below g3) (And.intro (S2.out.2.2.2.2.2.2.below g3) (And.intro (yb.below b3) (And.intro cb3 (hJ.below (bel3 v3 b3))))))))))
  clear hV3 hW3 g2 b3 v3 yb hY hJ g3 S2 HR hz3 cb3
  generalize w3.heap.size = py at S3 ⊢
  generalize py + 1 = py' at S3 ⊢
  have d0 := S3.out.2.2.2.2.1.c0
  have d1 := S3.out.2.2.2.2.1.c1
  have d2 := S3.out.2.2.2.2.2.2.2.1.c0
  have d3 := S3.out.2.2.2.2.2.2.2.1.c1
  go_wp2_with fail
  refine (sameints_any _ _ _ _ _ _ _ S3.out.2.2.2.2.2.1 S3.out.2.2.2.2.2.2.2.2).mono ?_
  rintro _ w4 ⟨rfl, g4⟩
  clear d0 d1 d2 d3
  have S4 := hid (And.intro (bel3 S3.out.1 g4) (And.intro (S3.out.2.1.below g4) (And.intro (S3.out.2.2.1.below g4) (And.intro (S3.out.2.2.2.1.below g4) (S3.out.2.2.2.2.2.2.1.below g4)))))
  clear S3 g4
  have d0 := S4.out.2.2.2.1.b
  have d1 := S4.out.2.2.2.2.b
  go_wp2_with fail
  refine (samearr_any _ _ _ _ _ R.A _ S4.out.2.2.2.1.d S4.out.2.2.2.2.d).mono ?_
  rintro _ w5 ⟨rfl, g5⟩
  clear d0 d1
  have S5 := hid (And.intro (bel3 S4.out.1 g5) (And.intro (S4.out.2.1.below g5) (S4.out.2.2.1.below g5)))
  clear S4 g5
  have d0 := S5.out.2.1.b
  have d1 := S5.out.2.2.b
  go_wp2_with fail
  refine (samearr_any _ _ _ _ _ A _ S5.out.2.2.d S5.out.2.1.d).mono ?_
  rintro _ w6 ⟨rfl, g6⟩
  go_wp2
  go_ret
  exact ⟨rfl, bel3 S5.out.1 g6⟩

set_option maxRecDepth 100000 in
theorem lifted (os : Os) (started : os.Started) (H : Type) (enc : TypeId × Value → H) :
    ReturnsInHanded {} Try.checked os 3 .any (Rows.scrubStepsSpec.pre6 enc Try.prog Try.f3 Rows.scrubStepsRow.domain false) (Rows.scrubStepsSpec.post enc Try.prog Try.f3 false true false false) := by
  refine returnsInHanded_of_change_sized (C := Try.checked) own started (by kernel_rfl) Try.func3
    (ChangeSpec.witness6 (enc := enc) (C := Try.checked) false ⟨#[], #[.agg #[.slice none 0 0], .agg #[.int .i64 0, .int .i64 0], .int .i64 0], []⟩ 8 (by kernel_rfl) (by kernel_rfl) (by kernel_rfl) (by kernel_rfl)) ?_
  intro W base args ds gs before hval0 hW hcnd hsz0 _
  have hsz : (DataW.weightsEach Try.prog (Try.f3.params.toList ++ Rows.scrubStepsSpec.plain.varTypes Try.prog) (ds ++ gs)).all (· ≤ reachBytes) = true := hsz0
  have hval : ∀ (j : Nat) t v, Try.f3.params[j]? = some t → args[j]? = some v → Value.okWide Try.prog W .any base t v := hval0
  have hW' := hW
  obtain ⟨p, q, hA0, hV, rfl, hfz, hnd⟩ := hW
  have hA : DataW.TrodAll enc Try.prog W 0 (fun _ => true) true Try.f3.params.toList args.toList ds p := hA0
  rw [Try.params3] at hA hval hsz
  obtain ⟨v0, vs0, d0, ds0, p0, q0, hargs, rfl, rfl, h0, r0⟩ := trodAll_cons hA
  obtain ⟨v1, vs1, d1, ds1, p1, q1, rfl, rfl, rfl, h1, r1⟩ := trodAll_cons r0
  obtain ⟨v2, vs2, d2, ds2, p2, q2, rfl, rfl, rfl, h2, r2⟩ := trodAll_cons r1
  obtain ⟨rfl, rfl, rfl⟩ := trodAll_nil r2
  obtain rfl : args = #[v0, v1, v2] := by cases args; simp_all
  obtain ⟨rfl, rfl⟩ := trodVars_none hV
  have h0k := h0
  obtain ⟨a0, n0, c0, A0, rfl, w0, f0⟩ := open_arr (hval 0 24 v0 rfl rfl) h0
  have l0 : ∀ x ∈ p0, x.block < W.heap.size := fun x hx => hW'.lt x (by simp [hx])
  have h1k := h1
  obtain ⟨x1, z1, rfl, w1, f1⟩ := open_cur (hval 1 26 v1 rfl rfl) h1
  have l1 : ∀ x ∈ p1, x.block < W.heap.size := fun x hx => hW'.lt x (by simp [hx])
  obtain ⟨a2, rfl, rfl, rfl, w2⟩ := open_int Try.underlying3 (hval 2 3 v2 rfl rfl) h2
  clear hA0 hval0
  refine (walk W a0 n0 c0 A0 x1 z1 a2 (And.intro w0 (f0 (fun x hx => weights_in hsz (j := 0) (t := 24) rfl rfl hx))) w1 w2).mono fun e W' ⟨he, bel⟩ => ?_
  subst he
  exact ⟨_, rfl, _, _, _, [], _, [], hW', trodAll_mk1 (shut_bool Try.underlying4 _), (trodAll_cons_mk (Below.trod laidOut (by kernel_rfl) (of_decide_eq_true (by kernel_rfl)) h0k bel l0) (trodAll_cons_mk (Below.trod laidOut (by kernel_rfl) (of_decide_eq_true (by kernel_rfl)) h1k bel l1) (trodAll_cons_mk (shut_int Try.underlying3 w2) trodAll_mk0))), rfl, bel.frame _, fun h => by cases h⟩

theorem over : Rows.scrubStepsRow.holds Try.pinned (OpenSpec.ofChange Rows.scrubStepsSpec) :=
  OpenClaim.holds_of_wide 3 Try.f3 rfl rfl rfl rfl rfl rfl rfl ⟨rfl, rfl, rfl, rfl, rfl⟩ rfl rfl rfl rfl rfl (by kernel_rfl) Try.func3 (by kernel_rfl)
    (of_decide_eq_true (by kernel_rfl)) (by unfold Func.isWrapper; first | (rw [if_pos (by decide +kernel)]; kernel_rfl) | (rw [if_neg (by decide +kernel)]; exact ⟨rfl, rfl⟩))
    (fun os started H enc _ => lifted os started H enc)
end Go.Proofs.Ytpnmidkocmokeaa.scrubSteps

namespace Go.Proofs.Ytpnmidkocmokeaa
theorem scrubSteps_holds : Rows.ScrubStepsSaid := scrubSteps.over
#print axioms scrubSteps_holds
end Go.Proofs.Ytpnmidkocmokeaa
