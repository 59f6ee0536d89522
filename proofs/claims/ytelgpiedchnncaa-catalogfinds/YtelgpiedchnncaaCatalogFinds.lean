/- For every catalog (nil, empty, of whatever lists) and every text the program's catalog.Find answers what the document's own answer is; the catalog is left as it was; no condition. -/
import Derived.Test.YtelgpiedchnncaaRows
import Derived.Test.YtelgpiedchnncaaCatFind
import Derived.Test.YtelgpiedchnncaaCatOpen
import Derived.WalkKit
import Derived.ProofKit
import Derived.OpenShut
import Derived.ShutString
namespace Go.Proofs.Ytelgpiedchnncaa.catalogFinds
open Go.ChangeShapes Go.WideShapes Go.ChangeAt Go.RowKit
open Go.ChangeMaps (open_string shut_string)

theorem own : ownKnob Try.prog.godebug = none := by kernel_rfl
theorem laidOut : laidOutB Try.prog = true := by kernel_rfl

set_option maxHeartbeats 1000000 in
set_option maxRecDepth 4000 in
theorem walk (w : World) (a : Option Addr) (n c : Nat) (a' : Option Addr) (m c' : Nat) (C : Ct) (s : ByteArray) (h : CatAt w a n c a' m C) (_ws : s.size ≤ maxLen) :
    Calls Try.prog 7 #[.agg #[.slice a n c, .slice a' m c'], .string s] w fun e w' => e = .returned (.bool true) ∧ Below w.heap.size w w' := by
  obtain ⟨W, hW⟩ : ∃ W, W = w.alloc (.cells #[.slice a n c, .slice a' m c'] 26) := ⟨_, rfl⟩
  have hB : Below w.heap.size w W := by rw [hW]; exact (Below.refl _ w).alloc (Nat.le_refl _) _
  have bd : Box2 W w.heap.size (.slice a n c) (.slice a' m c') := by rw [hW]; exact box2_of (Own.made w 26 [.slice a n c, .slice a' m c'])
  have h1 := cfind_any a n c a' m c' C s W (h.below hB)
  rw [hW] at h1
  have C2 := hid (fun wx (g : Below W.heap.size W wx) => reffind_any a n c a' m c' C s wx ((h.below hB).below g))
  have HP := hid (And.intro hB (And.intro bd hW))
  generalize catFind C s = T at h1 C2
  obtain ⟨⟨x0, x1, x2, x3⟩, U⟩ := T
  unfold fndV at h1 C2
  dsimp only at h1 C2
  have H1 := hid h1
  clear hB bd h h1 hW
  go_enter Try.func7, Try.ntmps7
  go_wp2_with fail
  refine H1.out.mono ?_
  rintro e w1 ⟨rfl, g1⟩
  rw [← HP.out.2.2] at g1
  have d0 := (HP.out.2.1.below g1).c0
  have d1 := (HP.out.2.1.below g1).c1
  have hz : w.heap.size < w1.heap.size := cell_lt d0
  obtain ⟨W2, hW2⟩ : ∃ W2, W2 = w1.alloc (.cells #[.string x0, .int .i64 x1, .int .i64 x2, .int .i64 x3] 35) := ⟨_, rfl⟩
  have g2 : Below W.heap.size W W2 := by rw [hW2]; exact g1.alloc g1.size _
  have C3 := C2.out W2 g2
  rw [hW2] at C3
  have e4 := box4_of (Own.made w1 35 [.string x0, .int .i64 x1, .int .i64 x2, .int .i64 x3])
  have G1 := hid (And.intro g2 (And.intro hW2 e4))
  have C4 := hid C3
  clear g1 H1 g2 C3 C2 e4 hW2
  go_wp2_with fail
  refine C4.out.mono ?_
  rintro e w2 ⟨rfl, g2⟩
  obtain ⟨z0, z1, z2, z3, _, _, _, _, hz2⟩ := G1.out.2.2.below g2
  rw [← G1.out.2.1] at g2
  clear d0 d1 C4
  go_wp2
  go_ret
  exact ⟨ret_bool (by simp), (HP.out.1.trans ((G1.out.1.trans (g2.mono G1.out.1.size)).mono HP.out.1.size)).alloc (HP.out.1.trans ((G1.out.1.trans (g2.mono G1.out.1.size)).mono HP.out.1.size)).size _⟩

set_option maxRecDepth 100000 in
theorem lifted (os : Os) (started : os.Started) (H : Type) (enc : TypeId × Value → H) :
    ReturnsInHanded {} Try.checked os 7 .any (Rows.catalogFindsSpec.pre6 enc Try.prog Try.f7 Rows.catalogFindsRow.domain false) (Rows.catalogFindsSpec.post enc Try.prog Try.f7 false true false false) := by
  refine returnsInHanded_of_change (C := Try.checked) own started (by kernel_rfl) Try.func7
    (ChangeSpec.witness6 (enc := enc) (C := Try.checked) false ⟨#[], #[.agg #[.slice none 0 0, .slice none 0 0], .string ByteArray.empty], []⟩ 8 (by kernel_rfl) (by kernel_rfl) (by kernel_rfl) (by kernel_rfl)) ?_
  intro W base args ds gs before hval0 hW hcnd _
  have hval : ∀ (j : Nat) t v, Try.f7.params[j]? = some t → args[j]? = some v → Value.okWide Try.prog W .any base t v := hval0
  have hW' := hW
  obtain ⟨p, q, hA0, hV, rfl, hfz, hnd⟩ := hW
  have hA : DataW.TrodAll enc Try.prog W 0 (fun _ => true) true Try.f7.params.toList args.toList ds p := hA0
  rw [Try.params7] at hA hval
  obtain ⟨v0, vs0, d0, ds0, p0, q0, hargs, rfl, rfl, h0, r0⟩ := trodAll_cons hA
  obtain ⟨v1, vs1, d1, ds1, p1, q1, rfl, rfl, rfl, h1, r1⟩ := trodAll_cons r0
  obtain ⟨rfl, rfl, rfl⟩ := trodAll_nil r1
  obtain rfl : args = #[v0, v1] := by cases args; simp_all
  obtain ⟨rfl, rfl⟩ := trodVars_none hV
  have h0k := h0
  obtain ⟨a0, n0, c0, b0, m0, k0, C0, rfl, w0, f0⟩ := open_cat (hval 0 26 v0 rfl rfl) h0
  have l0 : ∀ x ∈ p0, x.block < W.heap.size := fun x hx => hW'.lt x (by simp [hx])
  obtain ⟨a1, rfl, rfl, rfl, w1⟩ := open_string Try.underlying9 (hval 1 9 v1 rfl rfl) h1
  clear hA0 hval0
  refine (walk W a0 n0 c0 b0 m0 k0 C0 a1 w0 w1).mono fun e W' ⟨he, bel⟩ => ?_
  subst he
  exact ⟨_, rfl, _, _, _, [], _, [], hW', trodAll_mk1 (shut_bool Try.underlying4 _), (trodAll_cons_mk (Below.trod laidOut (by kernel_rfl) (of_decide_eq_true (by kernel_rfl)) h0k bel l0) (trodAll_cons_mk (shut_string Try.underlying9 w1) trodAll_mk0)), rfl, bel.frame _, fun h => by cases h⟩

theorem over : Rows.catalogFindsRow.holds Try.pinned (OpenSpec.ofChange Rows.catalogFindsSpec) :=
  OpenClaim.holds_of_wide 7 Try.f7 rfl rfl rfl rfl rfl rfl rfl ⟨rfl, rfl, rfl, rfl, rfl⟩ rfl rfl rfl rfl rfl (by kernel_rfl) Try.func7 (by kernel_rfl)
    (of_decide_eq_true (by kernel_rfl)) (by unfold Func.isWrapper; first | (rw [if_pos (by decide +kernel)]; kernel_rfl) | (rw [if_neg (by decide +kernel)]; exact ⟨rfl, rfl⟩))
    (fun os started H enc _ => lifted os started H enc)
end Go.Proofs.Ytelgpiedchnncaa.catalogFinds

namespace Go.Proofs.Ytelgpiedchnncaa
theorem catalogFinds_holds : Rows.CatalogFindsSaid := catalogFinds.over
#print axioms catalogFinds_holds
end Go.Proofs.Ytelgpiedchnncaa
