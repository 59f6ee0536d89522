/- For every catalog (nil, empty, of whatever lists) the program's catalog.Encode answers what the document's own answer is; the catalog is left as it was; no condition. -/
import Derived.Test.YtelgpiedchnncaaRows
import Derived.Test.YtelgpiedchnncaaCatEnc
import Derived.Test.YtelgpiedchnncaaCatRefEnc
import Derived.Test.YtelgpiedchnncaaCatOpen
import Derived.WalkKit
import Derived.ProofKit
import Derived.OpenShut
import Derived.ShutString
namespace Go.Proofs.Ytelgpiedchnncaa.catalogEncodes
open Go.ChangeShapes Go.WideShapes Go.ChangeAt Go.RowKit
open Go.ChangeMaps (open_string shut_string)

theorem own : ownKnob Try.prog.godebug = none := by kernel_rfl
theorem laidOut : laidOutB Try.prog = true := by kernel_rfl

set_option maxHeartbeats 400000 in
theorem walk (w : World) (a : Option Addr) (n c : Nat) (a' : Option Addr) (m c' : Nat) (C : Ct) (h : CatAt w a n c a' m C) :
    Calls Try.prog 8 #[.agg #[.slice a n c, .slice a' m c']] w fun e w' => e = .returned (.bool true) ∧ Below w.heap.size w w' := by
  obtain ⟨W, hW⟩ : ∃ W, W = w.alloc (.cells #[.slice a n c, .slice a' m c'] 26) := ⟨_, rfl⟩
  have hB : Below w.heap.size w W := by rw [hW]; exact (Below.refl _ w).alloc (Nat.le_refl _) _
  have bd : Box2 W w.heap.size (.slice a n c) (.slice a' m c') := by rw [hW]; exact box2_of (Own.made w 26 [.slice a n c, .slice a' m c'])
  have h1 := cenc_any a n c a' m c' C W (h.below hB)
  rw [hW] at h1
  have C2 := hid (fun wx (g : Below W.heap.size W wx) => refenc_any a n c a' m c' C wx ((h.below hB).below g))
  have HP := hid (And.intro hB (And.intro bd hW))
  generalize str (catEnc C).1 = T at h1 C2
  generalize (catEnc C).2 = U at h1 C2
  have H1 := hid h1
  clear hB bd h h1 hW
  go_enter Try.func8, Try.ntmps8
  go_wp2_with fail
  refine H1.out.mono ?_
  rintro e w1 ⟨rfl, g1⟩
  rw [← HP.out.2.2] at g1
  have d0 := (HP.out.2.1.below g1).c0
  have d1 := (HP.out.2.1.below g1).c1
  have G1 := hid g1
  clear g1 H1
  go_wp2_with fail
  refine (C2.out _ G1.out).mono ?_
  rintro e w2 ⟨rfl, g2⟩
  go_wp2
  go_ret
  exact ⟨ret_bool (by simp), HP.out.1.trans ((G1.out.trans (g2.mono G1.out.size)).mono HP.out.1.size)⟩

set_option maxRecDepth 100000 in
theorem lifted (os : Os) (started : os.Started) (H : Type) (enc : TypeId × Value → H) :
    ReturnsInHanded {} Try.checked os 8 .any (Rows.catalogEncodesSpec.pre6 enc Try.prog Try.f8 Rows.catalogEncodesRow.domain false) (Rows.catalogEncodesSpec.post enc Try.prog Try.f8 false true false false) := by
  refine returnsInHanded_of_change (C := Try.checked) own started (by kernel_rfl) Try.func8
    (ChangeSpec.witness6 (enc := enc) (C := Try.checked) false ⟨#[], #[.agg #[.slice none 0 0, .slice none 0 0]], []⟩ 8 (by kernel_rfl) (by kernel_rfl) (by kernel_rfl) (by kernel_rfl)) ?_
  intro W base args ds gs before hval0 hW hcnd _
  have hval : ∀ (j : Nat) t v, Try.f8.params[j]? = some t → args[j]? = some v → Value.okWide Try.prog W .any base t v := hval0
  have hW' := hW
  obtain ⟨p, q, hA0, hV, rfl, hfz, hnd⟩ := hW
  have hA : DataW.TrodAll enc Try.prog W 0 (fun _ => true) true Try.f8.params.toList args.toList ds p := hA0
  rw [Try.params8] at hA hval
  obtain ⟨v0, vs0, d0, ds0, p0, q0, hargs, rfl, rfl, h0, r0⟩ := trodAll_cons hA
  obtain ⟨rfl, rfl, rfl⟩ := trodAll_nil r0
  obtain rfl : args = #[v0] := by cases args; simp_all
  obtain ⟨rfl, rfl⟩ := trodVars_none hV
  have h0k := h0
  obtain ⟨a0, n0, c0, b0, m0, k0, C0, rfl, w0, f0⟩ := open_cat (hval 0 26 v0 rfl rfl) h0
  have l0 : ∀ x ∈ p0, x.block < W.heap.size := fun x hx => hW'.lt x (by simp [hx])
  clear hA0 hval0
  refine (walk W a0 n0 c0 b0 m0 k0 C0 w0).mono fun e W' ⟨he, bel⟩ => ?_
  subst he
  exact ⟨_, rfl, _, _, _, [], _, [], hW', trodAll_mk1 (shut_bool Try.underlying4 _), (trodAll_cons_mk (Below.trod laidOut (by kernel_rfl) (of_decide_eq_true (by kernel_rfl)) h0k bel l0) trodAll_mk0), rfl, bel.frame _, fun h => by cases h⟩

theorem over : Rows.catalogEncodesRow.holds Try.pinned (OpenSpec.ofChange Rows.catalogEncodesSpec) :=
  OpenClaim.holds_of_wide 8 Try.f8 rfl rfl rfl rfl rfl rfl rfl ⟨rfl, rfl, rfl, rfl, rfl⟩ rfl rfl rfl rfl rfl (by kernel_rfl) Try.func8 (by kernel_rfl)
    (of_decide_eq_true (by kernel_rfl)) (by unfold Func.isWrapper; first | (rw [if_pos (by decide +kernel)]; kernel_rfl) | (rw [if_neg (by decide +kernel)]; exact ⟨rfl, rfl⟩))
    (fun os started H enc _ => lifted os started H enc)
end Go.Proofs.Ytelgpiedchnncaa.catalogEncodes

namespace Go.Proofs.Ytelgpiedchnncaa
theorem catalogEncodes_holds : Rows.CatalogEncodesSaid := catalogEncodes.over
#print axioms catalogEncodes_holds
end Go.Proofs.Ytelgpiedchnncaa
