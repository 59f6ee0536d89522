/- For every device (nil, empty, of whatever lists), and every place the program's device.Lose answers the very device and the very error that P4.4 says; what was handed in is left as it was; no condition. -/
import Derived.Test.YtbckalbnmfejbacRows
import Derived.Test.YtbckalbnmfejbacDevWrite
import Derived.Test.YtbckalbnmfejbacDevRefWrite
import Derived.Test.YtbckalbnmfejbacDevRefCopy
import Derived.Test.YtbckalbnmfejbacDevSame
import Derived.Test.YtbckalbnmfejbacDevOpen
import Derived.WalkKit
import Derived.ProofKit
import Derived.OpenShut
import Derived.ShutString
namespace Go.Proofs.Ytbckalbnmfejbac.deviceLoses
open Go.ChangeShapes Go.WideShapes Go.ChangeAt Go.RowKit
open Go.ChangeMaps (open_string shut_string)

theorem own : ownKnob Try.prog.godebug = none := by kernel_rfl
theorem laidOut : laidOutB Try.prog = true := by kernel_rfl

set_option maxHeartbeats 1600000 in
set_option maxRecDepth 4000 in
theorem walk (w : World) (a : Option Addr) (n c : Nat) (a' : Option Addr) (m c' : Nat) (D : Dv) (i : Int) (h : DevAt w a n a' m D ∧ DevFits n m D) (_w1 : (Lit.int .i64 i).wf = true) :
    Calls Try.prog 5 #[.agg #[.slice a n c, .slice a' m c'], .int .i64 i] w fun e w' => e = .returned (.bool true) ∧ Below w.heap.size w w' := by
  obtain ⟨h, fit⟩ := h
  have f1 := fit.n
  have f2 := fit.m
  unfold reachBytes at f1 f2
  obtain ⟨W, hW⟩ : ∃ W, W = w.alloc (.cells #[.slice a n c, .slice a' m c'] 25) := ⟨_, rfl⟩
  have hB : Below w.heap.size w W := by rw [hW]; exact (Below.refl _ w).alloc (Nat.le_refl _) _
  have bd : Box2 W w.heap.size (.slice a n c) (.slice a' m c') := by rw [hW]; exact box2_of (Own.made w 25 [.slice a n c, .slice a' m c'])
  have hC := refcopy_any a n c a' m c' D W (h.below hB) (by omega) (by omega)
  rw [hW] at hC
  have HE := hid hW
  have HC := hid hC
  have HA := hid (fun (b : Option Addr) (n c : Nat) (b' : Option Addr) (m c' : Nat) (wx : World) (hx : DevAt wx b n b' m D) => lose_any b n c b' m c' i D wx hx)
  have HR := hid (fun (b : Option Addr) (n c : Nat) (b' : Option Addr) (m c' : Nat) (wx : World) (hx : DevAt wx b n b' m D) => reflost_any b n c b' m c' i D wx hx)
  generalize dvLose D i = r at HA HR
  have HD := hid (And.intro h (And.intro hB bd))
  have hn := h.sn
  have hm := h.sm
  have HN := hid (And.intro hn (And.intro hm (And.intro h.nb h.mb)))
  clear hC hW hB bd h fit f1 f2 hn hm
  go_enter Try.func5, Try.ntmps5
  go_wp2_with fail
  refine HC.out.mono ?_
  rintro _ w1 ⟨ao, c1, ao', c2, rfl, hK, g1⟩
  rw [← HE.out] at g1
  have k1 := hK.at (n := n) (m := m) HN.out.1 HN.out.2.1 HN.out.2.2.1 HN.out.2.2.2
  go_upto_region 2 with fail
  obtain ⟨W1, hW1⟩ : ∃ W1, W1 = w1.alloc (.cells #[.slice ao n c1, .slice ao' m c2] 25) := ⟨_, rfl⟩
  have b1 : Below w1.heap.size w1 W1 := by rw [hW1]; exact (Below.refl _ w1).alloc (Nat.le_refl _) _
  have kb : Box2 W1 w1.heap.size (.slice ao n c1) (.slice ao' m c2) := by rw [hW1]; exact box2_of (Own.made w1 25 [.slice ao n c1, .slice ao' m c2])
  rw [← hW1]
  clear hW1 hK
  have S1 := hid (And.intro (HD.out.2.1.trans ((g1.trans (b1.mono g1.size)).mono HD.out.2.1.size)) (And.intro ((HD.out.2.2.below g1).below b1) (And.intro kb (And.intro (((HD.out.1.below HD.out.2.1).below g1).below b1) (k1.below b1)))))
  have d0 := kb.c0
  have d1 := kb.c1
  clear g1 b1 kb k1 HC
  generalize w1.heap.size = pk at S1 d0 d1 ⊢
  go_wp2_with fail
  refine (HA.out _ _ _ _ _ _ _ S1.out.2.2.2.2).mono ?_
  rintro _ w2 ⟨x, n1, e1, x', m1, e2, rfl, hX, _, g2⟩
  clear d0 d1
  go_upto_region 3 with fail
  obtain ⟨W2, hW2⟩ : ∃ W2, W2 = w2.alloc (.cells #[.slice x n1 e1, .slice x' m1 e2] 25) := ⟨_, rfl⟩
  have b2 : Below w2.heap.size w2 W2 := by rw [hW2]; exact (Below.refl _ w2).alloc (Nat.le_refl _) _
  have xb : Box2 W2 w2.heap.size (.slice x n1 e1) (.slice x' m1 e2) := by rw [hW2]; exact box2_of (Own.made w2 25 [.slice x n1 e1, .slice x' m1 e2])
  rw [← hW2]
  clear hW2
  have g3 := g2.trans (b2.mono g2.size)
  have S2 := hid (And.intro (S1.out.1.trans (g3.mono S1.out.1.size)) (And.intro (S1.out.2.1.below g3) (And.intro (S1.out.2.2.1.below g3) (And.intro (S1.out.2.2.2.1.below g3) (And.intro (S1.out.2.2.2.2.below g3) (And.intro xb (hX.below b2)))))))
  clear g2 b2 xb hX g3 S1 HA
  generalize w2.heap.size = px at S2 ⊢
  have d0 := S2.out.2.1.c0
  have d1 := S2.out.2.1.c1
  go_wp2_with fail
  refine (HR.out _ _ _ _ _ _ _ S2.out.2.2.2.1).mono ?_
  rintro _ w3 ⟨y, n2, e3, y', m2, e4, rfl, hY, _, g2⟩
  obtain rfl : n2 = n1 := by rw [hY.sn, S2.out.2.2.2.2.2.2.sn]
  obtain rfl : m2 = m1 := by rw [hY.sm, S2.out.2.2.2.2.2.2.sm]
  clear d0 d1
  go_upto_region 4 with fail
  obtain ⟨W3, hW3⟩ : ∃ W3, W3 = w3.alloc (.cells #[.slice y n2 e3, .slice y' m2 e4] 25) := ⟨_, rfl⟩
  have b2 : Below w3.heap.size w3 W3 := by rw [hW3]; exact (Below.refl _ w3).alloc (Nat.le_refl _) _
  have yb : Box2 W3 w3.heap.size (.slice y n2 e3) (.slice y' m2 e4) := by rw [hW3]; exact box2_of (Own.made w3 25 [.slice y n2 e3, .slice y' m2 e4])
  rw [← hW3]
  clear hW3
  have g3 := g2.trans (b2.mono g2.size)
  have S3 := hid (And.intro (S2.out.1.trans (g3.mono S2.out.1.size)) (And.intro (S2.out.2.1.below g3) (And.intro (S2.out.2.2.1.below g3) (And.intro (S2.out.2.2.2.1.below g3) (And.intro (S2.out.2.2.2.2.1.below g3) (And.intro (S2.out.2.2.2.2.2.1.below g3) (And.intro (S2.out.2.2.2.2.2.2.below g3) (And.intro yb (hY.below b2)))))))))
  clear g2 b2 yb hY g3 S2 HR
  generalize w3.heap.size = py at S3 ⊢
  have d0 := S3.out.2.2.2.2.2.1.c0
  have d1 := S3.out.2.2.2.2.2.1.c1
  have d2 := S3.out.2.2.2.2.2.2.2.1.c0
  have d3 := S3.out.2.2.2.2.2.2.2.1.c1
  go_wp2_with fail
  refine (same_any _ _ _ _ _ _ _ _ _ _ r.1 _ S3.out.2.2.2.2.2.2.1 S3.out.2.2.2.2.2.2.2.2).mono ?_
  rintro _ w4 ⟨rfl, g4⟩
  clear d0 d1 d2 d3
  have q1 := S3.out.2.1.below g4
  have q2 := S3.out.2.2.1.below g4
  have S4 := hid (And.intro (S3.out.2.2.2.1.below g4) (And.intro (S3.out.2.2.2.2.1.below g4) (S3.out.1.trans (g4.mono S3.out.1.size))))
  have d0 := q1.c0
  have d1 := q1.c1
  have d2 := q2.c0
  have d3 := q2.c1
  clear q1 q2 S3 g4
  go_wp2_with fail
  refine (same_any _ _ _ _ _ _ _ _ _ _ D _ S4.out.2.1 S4.out.1).mono ?_
  rintro _ w5 ⟨rfl, g5⟩
  go_wp2
  go_ret
  exact ⟨rfl, S4.out.2.2.trans (g5.mono S4.out.2.2.size)⟩

set_option maxRecDepth 100000 in
theorem lifted (os : Os) (started : os.Started) (H : Type) (enc : TypeId × Value → H) :
    ReturnsInHanded {} Try.checked os 5 .any (Rows.deviceLosesSpec.pre6 enc Try.prog Try.f5 Rows.deviceLosesRow.domain false) (Rows.deviceLosesSpec.post enc Try.prog Try.f5 false true false false) := by
  refine returnsInHanded_of_change_sized (C := Try.checked) own started (by kernel_rfl) Try.func5
    (ChangeSpec.witness6 (enc := enc) (C := Try.checked) false ⟨#[], #[.agg #[.slice none 0 0, .slice none 0 0], .int .i64 0], []⟩ 8 (by kernel_rfl) (by kernel_rfl) (by kernel_rfl) (by kernel_rfl)) ?_
  intro W base args ds gs before hval0 hW hcnd hsz0 _
  have hsz : (DataW.weightsEach Try.prog (Try.f5.params.toList ++ Rows.deviceLosesSpec.plain.varTypes Try.prog) (ds ++ gs)).all (· ≤ reachBytes) = true := hsz0
  have hval : ∀ (j : Nat) t v, Try.f5.params[j]? = some t → args[j]? = some v → Value.okWide Try.prog W .any base t v := hval0
  have hW' := hW
  obtain ⟨p, q, hA0, hV, rfl, hfz, hnd⟩ := hW
  have hA : DataW.TrodAll enc Try.prog W 0 (fun _ => true) true Try.f5.params.toList args.toList ds p := hA0
  rw [Try.params5] at hA hval hsz
  obtain ⟨v0, vs0, d0, ds0, p0, q0, hargs, rfl, rfl, h0, r0⟩ := trodAll_cons hA
  obtain ⟨v1, vs1, d1, ds1, p1, q1, rfl, rfl, rfl, h1, r1⟩ := trodAll_cons r0
  obtain ⟨rfl, rfl, rfl⟩ := trodAll_nil r1
  obtain rfl : args = #[v0, v1] := by cases args; simp_all
  obtain ⟨rfl, rfl⟩ := trodVars_none hV
  have h0k := h0
  obtain ⟨a0, n0, c0, b0, m0, k0, D0, rfl, w0, f0⟩ := open_dev (hval 0 25 v0 rfl rfl) h0
  have l0 : ∀ x ∈ p0, x.block < W.heap.size := fun x hx => hW'.lt x (by simp [hx])
  obtain ⟨a1, rfl, rfl, rfl, w1⟩ := open_int Try.underlying3 (hval 1 3 v1 rfl rfl) h1
  clear hA0 hval0
  refine (walk W a0 n0 c0 b0 m0 k0 D0 a1 (And.intro w0 (f0 (fun x hx => weights_in hsz (j := 0) (t := 25) rfl rfl hx))) w1).mono fun e W' ⟨he, bel⟩ => ?_
  subst he
  exact ⟨_, rfl, _, _, _, [], _, [], hW', trodAll_mk1 (shut_bool Try.underlying4 _), (trodAll_cons_mk (Below.trod laidOut (by kernel_rfl) (of_decide_eq_true (by kernel_rfl)) h0k bel l0) (trodAll_cons_mk (shut_int Try.underlying3 w1) trodAll_mk0)), rfl, bel.frame _, fun h => by cases h⟩

theorem over : Rows.deviceLosesRow.holds Try.pinned (OpenSpec.ofChange Rows.deviceLosesSpec) :=
  OpenClaim.holds_of_wide 5 Try.f5 rfl rfl rfl rfl rfl rfl rfl ⟨rfl, rfl, rfl, rfl, rfl⟩ rfl rfl rfl rfl rfl (by kernel_rfl) Try.func5 (by kernel_rfl)
    (of_decide_eq_true (by kernel_rfl)) (by unfold Func.isWrapper; first | (rw [if_pos (by decide +kernel)]; kernel_rfl) | (rw [if_neg (by decide +kernel)]; exact ⟨rfl, rfl⟩))
    (fun os started H enc _ => lifted os started H enc)
end Go.Proofs.Ytbckalbnmfejbac.deviceLoses

namespace Go.Proofs.Ytbckalbnmfejbac
theorem deviceLoses_holds : Rows.DeviceLosesSaid := deviceLoses.over
#print axioms deviceLoses_holds
end Go.Proofs.Ytbckalbnmfejbac
