/- For every catalog (nil, empty, of whatever lists) the program's catalog.Copy answers the same catalog; the catalog is left as it was; no condition. -/
import Derived.Test.YtelgpiedchnncaaRows
import Derived.Test.YtelgpiedchnncaaCatCopy
import Derived.Test.YtelgpiedchnncaaCatSame
import Derived.Test.YtelgpiedchnncaaCatOpen
import Derived.WalkKit
import Derived.ProofKit
import Derived.OpenShut
import Derived.ShutString
namespace Go.Proofs.Ytelgpiedchnncaa.catalogCopies
open Go.ChangeShapes Go.WideShapes Go.ChangeAt Go.RowKit
open Go.ChangeMaps (open_string shut_string)

theorem own : ownKnob Try.prog.godebug = none := by kernel_rfl
theorem laidOut : laidOutB Try.prog = true := by kernel_rfl

set_option maxHeartbeats 1000000 in
set_option maxRecDepth 4000 in
theorem walk (w : World) (a : Option Addr) (n c : Nat) (a' : Option Addr) (m c' : Nat) (C : Ct) (h : CatAt w a n c a' m C ∧ CatFits n m C) :
    Calls Try.prog 5 #[.agg #[.slice a n c, .slice a' m c']] w fun e w' => e = .returned (.bool true) ∧ Below w.heap.size w w' := by
  obtain ⟨h, fit⟩ := h
  have f1 := fit.fn
  have f2 := fit.fm
  have f3 := fit.fs
  unfold reachBytes at f1 f2 f3
  obtain ⟨W, hW⟩ : ∃ W, W = w.alloc (.cells #[.slice a n c, .slice a' m c'] 26) := ⟨_, rfl⟩
  have hB : Below w.heap.size w W := by rw [hW]; exact (Below.refl _ w).alloc (Nat.le_refl _) _
  have bd : Box2 W w.heap.size (.slice a n c) (.slice a' m c') := by rw [hW]; exact box2_of (Own.made w 26 [.slice a n c, .slice a' m c'])
  have h1 := ccopy_any a n c a' m c' C W (h.below hB) (by omega) (by omega) (fun i hi => by have := f3 i hi; omega)
  rw [hW] at h1
  have HE := hid hW
  have HP := hid (And.intro hB (And.intro bd h))
  have H1 := hid h1
  clear hW hB bd h h1 fit f1 f2 f3
  go_enter Try.func5, Try.ntmps5
  go_wp2_with fail
  refine H1.out.mono ?_
  rintro e w1 ⟨b, b', rfl, q1, q2, q3, q4, q5, g1⟩
  rw [← HE.out] at g1
  have kD : CatAt w1 (some ⟨b, 0, none⟩) n n (some ⟨b', 0, none⟩) m C := by
    have e1 := HP.out.2.2.B.sn
    have e2 := HP.out.2.2.E.sn
    have x1 := q4.blkAt (by rw [← e1]; exact HP.out.2.2.B.nb)
    have x2 := q5.entAt (by rw [← e2]; exact HP.out.2.2.E.nb) (by rw [← e2]; exact HP.out.2.2.E.nm)
    rw [← e1] at x1
    rw [← e2] at x2
    exact ⟨Nat.le_refl _, x1, x2⟩
  go_upto_region 2 with fail
  obtain ⟨W1, hW1⟩ : ∃ W1, W1 = w1.alloc (.cells #[.slice (some ⟨b, 0, none⟩) n n, .slice (some ⟨b', 0, none⟩) m m] 26) := ⟨_, rfl⟩
  have b1 : Below w1.heap.size w1 W1 := by rw [hW1]; exact (Below.refl _ w1).alloc (Nat.le_refl _) _
  have kb : Box2 W1 w1.heap.size (.slice (some ⟨b, 0, none⟩) n n) (.slice (some ⟨b', 0, none⟩) m m) := by rw [hW1]; exact box2_of (Own.made w1 26 [.slice (some ⟨b, 0, none⟩) n n, .slice (some ⟨b', 0, none⟩) m m])
  rw [← hW1]
  clear hW1
  have g2 := g1.trans (b1.mono g1.size)
  have db := HP.out.2.1.below g2
  have S := hid (And.intro (kD.below b1) (And.intro ((HP.out.2.2.below HP.out.1).below g2) (HP.out.1.trans (g2.mono HP.out.1.size))))
  have d0 := kb.c0
  have d1 := kb.c1
  have d2 := db.c0
  have d3 := db.c1
  clear q1 q2 q3 q4 q5 g1 kD b1 kb g2 db
  generalize w1.heap.size = pk at d0 d1 ⊢
  go_wp2_with fail
  refine (samecat_any _ _ _ _ _ _ _ _ _ _ C _ S.out.1 S.out.2.1).mono ?_
  rintro _ w4 ⟨rfl, g4⟩
  go_wp2
  go_ret
  exact ⟨rfl, S.out.2.2.trans (g4.mono S.out.2.2.size)⟩

set_option maxRecDepth 100000 in
theorem lifted (os : Os) (started : os.Started) (H : Type) (enc : TypeId × Value → H) :
    ReturnsInHanded {} Try.checked os 5 .any (Rows.catalogCopiesSpec.pre6 enc Try.prog Try.f5 Rows.catalogCopiesRow.domain false) (Rows.catalogCopiesSpec.post enc Try.prog Try.f5 false true false false) := by
  refine returnsInHanded_of_change_sized (C := Try.checked) own started (by kernel_rfl) Try.func5
    (ChangeSpec.witness6 (enc := enc) (C := Try.checked) false ⟨#[], #[.agg #[.slice none 0 0, .slice none 0 0]], []⟩ 8 (by kernel_rfl) (by kernel_rfl) (by kernel_rfl) (by kernel_rfl)) ?_
  intro W base args ds gs before hval0 hW hcnd hsz0 _
  have hsz : (DataW.weightsEach Try.prog (Try.f5.params.toList ++ Rows.catalogCopiesSpec.plain.varTypes Try.prog) (ds ++ gs)).all (· ≤ reachBytes) = true := hsz0
  have hval : ∀ (j : Nat) t v, Try.f5.params[j]? = some t → args[j]? = some v → Value.okWide Try.prog W .any base t v := hval0
  have hW' := hW
  obtain ⟨p, q, hA0, hV, rfl, hfz, hnd⟩ := hW
  have hA : DataW.TrodAll enc Try.prog W 0 (fun _ => true) true Try.f5.params.toList args.toList ds p := hA0
  rw [Try.params5] at hA hval hsz
  obtain ⟨v0, vs0, d0, ds0, p0, q0, hargs, rfl, rfl, h0, r0⟩ := trodAll_cons hA
  obtain ⟨rfl, rfl, rfl⟩ := trodAll_nil r0
  obtain rfl : args = #[v0] := by cases args; simp_all
  obtain ⟨rfl, rfl⟩ := trodVars_none hV
  have h0k := h0
  obtain ⟨a0, n0, c0, b0, m0, k0, C0, rfl, w0, f0⟩ := open_cat (hval 0 26 v0 rfl rfl) h0
  have l0 : ∀ x ∈ p0, x.block < W.heap.size := fun x hx => hW'.lt x (by simp [hx])
  clear hA0 hval0
  refine (walk W a0 n0 c0 b0 m0 k0 C0 (And.intro w0 (f0 (fun x hx => weights_in hsz (j := 0) (t := 26) rfl rfl hx)))).mono fun e W' ⟨he, bel⟩ => ?_
  subst he
  exact ⟨_, rfl, _, _, _, [], _, [], hW', trodAll_mk1 (shut_bool Try.underlying4 _), (trodAll_cons_mk (Below.trod laidOut (by kernel_rfl) (of_decide_eq_true (by kernel_rfl)) h0k bel l0) trodAll_mk0), rfl, bel.frame _, fun h => by cases h⟩

theorem over : Rows.catalogCopiesRow.holds Try.pinned (OpenSpec.ofChange Rows.catalogCopiesSpec) :=
  OpenClaim.holds_of_wide 5 Try.f5 rfl rfl rfl rfl rfl rfl rfl ⟨rfl, rfl, rfl, rfl, rfl⟩ rfl rfl rfl rfl rfl (by kernel_rfl) Try.func5 (by kernel_rfl)
    (of_decide_eq_true (by kernel_rfl)) (by unfold Func.isWrapper; first | (rw [if_pos (by decide +kernel)]; kernel_rfl) | (rw [if_neg (by decide +kernel)]; exact ⟨rfl, rfl⟩))
    (fun os started H enc _ => lifted os started H enc)
end Go.Proofs.Ytelgpiedchnncaa.catalogCopies

namespace Go.Proofs.Ytelgpiedchnncaa
theorem catalogCopies_holds : Rows.CatalogCopiesSaid := catalogCopies.over
#print axioms catalogCopies_holds
end Go.Proofs.Ytelgpiedchnncaa
