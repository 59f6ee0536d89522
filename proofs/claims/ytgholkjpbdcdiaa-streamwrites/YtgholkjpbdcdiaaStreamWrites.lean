/- For every array (nil, empty, of whatever devices), every place and every text the program's stream.Write answers the very array and the very error that P8.2 says; what was handed in is left as it was; no condition. -/
import Derived.Test.YtgholkjpbdcdiaaRows
import Derived.Test.YtgholkjpbdcdiaaStreamWrite
import Derived.Test.YtgholkjpbdcdiaaStreamRefWrite
import Derived.Test.YtgholkjpbdcdiaaArrRefCopy
import Derived.Test.YtgholkjpbdcdiaaArrSame
import Derived.Test.YtgholkjpbdcdiaaArrOpen
import Derived.WalkKit
import Derived.ProofKit
import Derived.OpenShut
import Derived.ShutString
namespace Go.Proofs.Ytgholkjpbdcdiaa.streamWrites
open Go.ChangeShapes Go.WideShapes Go.ChangeAt Go.RowKit
open Go.ChangeMaps (open_string shut_string)

theorem own : ownKnob Try.prog.godebug = none := by kernel_rfl
theorem laidOut : laidOutB Try.prog = true := by kernel_rfl

set_option maxHeartbeats 1600000 in
set_option maxRecDepth 4000 in
theorem walk (w : World) (a : Option Addr) (n c : Nat) (A : Ar) (i : Int) (s : ByteArray) (h : ArrAt w a n A ∧ ArrFits n A) (_w1 : (Lit.int .i64 i).wf = true) (_w2 : s.size ≤ maxLen) :
    Calls Try.prog 4 #[.agg #[.slice a n c], .int .i64 i, .string s] w fun e w' => e = .returned (.bool true) ∧ Below w.heap.size w w' := by
  obtain ⟨h, fit⟩ := h
  obtain ⟨W, hW, hB, bx⟩ := aboxed c h
  have hC := acopy_any a n c A W bx.d fit
  rw [hW] at hC
  have HE := hid hW
  have HC := hid hC
  have HA := hid (fun (b : Option Addr) (n c : Nat) (wx : World) (hx : ArrAt wx b n A) => stwrite_any b n c i s A wx hx)
  have HR := hid (fun (b : Option Addr) (n c : Nat) (wx : World) (hx : ArrAt wx b n A) => stwritten_any b n c i s A wx hx)
  generalize stWrite A i s.data.toList = r at HA HR
  have HD := hid (And.intro hB bx)
  clear hC hW hB bx h fit
  go_enter Try.func4, Try.ntmps4
  go_wp2_with fail
  refine HC.out.mono ?_
  rintro _ w1 ⟨ao, c1, rfl, hK, g1⟩
  rw [← HE.out] at g1
  have k1 := outC_at hK
  go_upto_region 2 with fail
  obtain ⟨W1, hW1, b1, kb⟩ := aboxed c1 k1
  rw [← hW1]
  have S1 := hid (And.intro (bel3 (bel3 HD.out.1 g1) b1) (And.intro ((HD.out.2.below g1).below b1) kb))
  clear hW1 hK g1 b1 kb k1 HC
  generalize w1.heap.size = pk at S1 ⊢
  have d0 := S1.out.2.2.b
  go_wp2_with fail
  refine (HA.out _ _ _ _ S1.out.2.2.d).mono ?_
  rintro _ w2 ⟨⟨x, n1, e1, rfl, hX⟩, g2⟩
  have hx := outA_at hX
  clear d0
  go_upto_region 3 with fail
  obtain ⟨W2, hW2, b2, xb⟩ := aboxed e1 hx
  rw [← hW2]
  have g3 := bel3 g2 b2
  have S2 := hid (And.intro (bel3 S1.out.1 g3) (And.intro (S1.out.2.1.below g3) (And.intro (S1.out.2.2.below g3) xb)))
  clear hW2 g2 b2 xb hX hx g3 S1 HA
  generalize w2.heap.size = px at S2 ⊢
  have d0 := S2.out.2.1.b
  go_wp2_with fail
  refine (HR.out _ _ _ _ S2.out.2.1.d).mono ?_
  rintro _ w3 ⟨⟨y, n2, e2, rfl, hY⟩, g2⟩
  have hy := outA_at hY
  obtain rfl : n2 = n1 := by rw [hy.len, S2.out.2.2.2.d.len]
  clear d0
  go_upto_region 4 with fail
  obtain ⟨W3, hW3, b2, yb⟩ := aboxed e2 hy
  rw [← hW3]
  have g3 := bel3 g2 b2
  have S3 := hid (And.intro (bel3 S2.out.1 g3) (And.intro (S2.out.2.1.below g3) (And.intro (S2.out.2.2.1.below g3) (And.intro (S2.out.2.2.2.below g3) yb))))
  clear hW3 g2 b2 yb hY hy g3 S2 HR
  generalize w3.heap.size = py at S3 ⊢
  have d0 := S3.out.2.2.2.1.b
  have d1 := S3.out.2.2.2.2.b
  go_wp2_with fail
  refine (samearr_any _ _ _ _ _ r.1 _ S3.out.2.2.2.1.d S3.out.2.2.2.2.d).mono ?_
  rintro _ w4 ⟨rfl, g4⟩
  clear d0 d1
  have S4 := hid (And.intro (bel3 S3.out.1 g4) (And.intro (S3.out.2.1.below g4) (S3.out.2.2.1.below g4)))
  clear S3 g4
  have d0 := S4.out.2.1.b
  have d1 := S4.out.2.2.b
  go_wp2_with fail
  refine (samearr_any _ _ _ _ _ A _ S4.out.2.2.d S4.out.2.1.d).mono ?_
  rintro _ w5 ⟨rfl, g5⟩
  go_wp2
  go_ret
  exact ⟨rfl, bel3 S4.out.1 g5⟩

set_option maxRecDepth 100000 in
theorem lifted (os : Os) (started : os.Started) (H : Type) (enc : TypeId × Value → H) :
    ReturnsInHanded {} Try.checked os 4 .any (Rows.streamWritesSpec.pre6 enc Try.prog Try.f4 Rows.streamWritesRow.domain false) (Rows.streamWritesSpec.post enc Try.prog Try.f4 false true false false) := by
  refine returnsInHanded_of_change_sized (C := Try.checked) own started (by kernel_rfl) Try.func4
    (ChangeSpec.witness6 (enc := enc) (C := Try.checked) false ⟨#[], #[.agg #[.slice none 0 0], .int .i64 0, .string ByteArray.empty], []⟩ 8 (by kernel_rfl) (by kernel_rfl) (by kernel_rfl) (by kernel_rfl)) ?_
  intro W base args ds gs before hval0 hW hcnd hsz0 _
  have hsz : (DataW.weightsEach Try.prog (Try.f4.params.toList ++ Rows.streamWritesSpec.plain.varTypes Try.prog) (ds ++ gs)).all (· ≤ reachBytes) = true := hsz0
  have hval : ∀ (j : Nat) t v, Try.f4.params[j]? = some t → args[j]? = some v → Value.okWide Try.prog W .any base t v := hval0
  have hW' := hW
  obtain ⟨p, q, hA0, hV, rfl, hfz, hnd⟩ := hW
  have hA : DataW.TrodAll enc Try.prog W 0 (fun _ => true) true Try.f4.params.toList args.toList ds p := hA0
  rw [Try.params4] at hA hval hsz
  obtain ⟨v0, vs0, d0, ds0, p0, q0, hargs, rfl, rfl, h0, r0⟩ := trodAll_cons hA
  obtain ⟨v1, vs1, d1, ds1, p1, q1, rfl, rfl, rfl, h1, r1⟩ := trodAll_cons r0
  obtain ⟨v2, vs2, d2, ds2, p2, q2, rfl, rfl, rfl, h2, r2⟩ := trodAll_cons r1
  obtain ⟨rfl, rfl, rfl⟩ := trodAll_nil r2
  obtain rfl : args = #[v0, v1, v2] := by cases args; simp_all
  obtain ⟨rfl, rfl⟩ := trodVars_none hV
  have h0k := h0
  obtain ⟨a0, n0, c0, A0, rfl, w0, f0⟩ := open_arr (hval 0 27 v0 rfl rfl) h0
  have l0 : ∀ x ∈ p0, x.block < W.heap.size := fun x hx => hW'.lt x (by simp [hx])
  obtain ⟨a1, rfl, rfl, rfl, w1⟩ := open_int Try.underlying3 (hval 1 3 v1 rfl rfl) h1
  obtain ⟨a2, rfl, rfl, rfl, w2⟩ := open_string Try.underlying9 (hval 2 9 v2 rfl rfl) h2
  clear hA0 hval0
  refine (walk W a0 n0 c0 A0 a1 a2 (And.intro w0 (f0 (fun x hx => weights_in hsz (j := 0) (t := 27) rfl rfl hx))) w1 w2).mono fun e W' ⟨he, bel⟩ => ?_
  subst he
  exact ⟨_, rfl, _, _, _, [], _, [], hW', trodAll_mk1 (shut_bool Try.underlying4 _), (trodAll_cons_mk (Below.trod laidOut (by kernel_rfl) (of_decide_eq_true (by kernel_rfl)) h0k bel l0) (trodAll_cons_mk (shut_int Try.underlying3 w1) (trodAll_cons_mk (shut_string Try.underlying9 w2) trodAll_mk0))), rfl, bel.frame _, fun h => by cases h⟩

theorem over : Rows.streamWritesRow.holds Try.pinned (OpenSpec.ofChange Rows.streamWritesSpec) :=
  OpenClaim.holds_of_wide 4 Try.f4 rfl rfl rfl rfl rfl rfl rfl ⟨rfl, rfl, rfl, rfl, rfl⟩ rfl rfl rfl rfl rfl (by kernel_rfl) Try.func4 (by kernel_rfl)
    (of_decide_eq_true (by kernel_rfl)) (by unfold Func.isWrapper; first | (rw [if_pos (by decide +kernel)]; kernel_rfl) | (rw [if_neg (by decide +kernel)]; exact ⟨rfl, rfl⟩))
    (fun os started H enc _ => lifted os started H enc)
end Go.Proofs.Ytgholkjpbdcdiaa.streamWrites

namespace Go.Proofs.Ytgholkjpbdcdiaa
theorem streamWrites_holds : Rows.StreamWritesSaid := streamWrites.over
#print axioms streamWrites_holds
end Go.Proofs.Ytgholkjpbdcdiaa
