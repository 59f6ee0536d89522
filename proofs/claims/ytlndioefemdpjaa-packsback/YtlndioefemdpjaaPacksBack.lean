/- For every text: up to 600 of its bytes, packed and unpacked, are what they were, and the packed ones are at most one more for each 128 begun; 601 bytes are refused; no condition. -/
import Derived.Test.YtlndioefemdpjaaRows
import Derived.Test.YtlndioefemdpjaaShelf
import Derived.Test.YtlndioefemdpjaaPressPack
import Derived.Test.YtlndioefemdpjaaPressUnpack
import Derived.WalkKit
import Derived.ProofKit
import Derived.OpenShut
import Derived.ShutString
namespace Go.Proofs.Ytlndioefemdpjaa.packsBack
open Go.ChangeShapes Go.WideShapes Go.ChangeAt Go.RowKit
open Go.ChangeMaps (open_string shut_string)

theorem own : ownKnob Try.prog.godebug = none := by kernel_rfl

set_option maxHeartbeats 800000 in
set_option maxRecDepth 4000 in
theorem walk (a0 : ByteArray) (_w0 : a0.size ≤ maxLen) (w : World) :
    Calls Try.prog 7 #[.string a0] w fun e w' => e = .returned (.bool true) ∧ Below w.heap.size w w' := by
  obtain ⟨n, mn, hn1, hn2⟩ : ∃ n : Nat, min (a0.size : Int) 600 = n ∧ n ≤ 600 ∧ n ≤ a0.size := ⟨min a0.size 600, by omega, by omega, by omega⟩
  have m2 : (n : Int) ≤ a0.size := by omega
  have hes := ext_size a0 0 n hn2
  obtain ⟨A, hA⟩ : ∃ A, a0.extract 0 n = A := ⟨_, rfl⟩
  rw [hA, Nat.sub_zero] at hes
  have p1 := fun wx => pack_any A wx (by omega)
  have q1 := packed_length A.data.toList
  rw [ba_len] at q1
  have p2 := fun wx => unpack_any (str (packed A.data.toList)) wx (by rw [str_size]; unfold maxLen; omega)
  have hu := unp_packed A.data.toList (by rw [ba_len]; omega)
  rw [str_list, hu] at p2
  simp only [str_of] at p2
  rw [← str_size] at q1
  generalize str (packed A.data.toList) = PA at p1 p2 q1
  have hr := fun wx => Try.strings_Repeat ⟨#[120]⟩ 601 wx (by omega) (by show 1 * 601 ≤ _; omega)
  have hrl : (⟨(Lib.repeatL (⟨#[120]⟩ : ByteArray).data.toList 601).toArray⟩ : ByteArray).size = 601 := by
    show (Lib.repeatL _ 601).toArray.size = 601
    rw [List.size_toArray, Lib.repeatL_length]; rfl
  generalize (⟨(Lib.repeatL (⟨#[120]⟩ : ByteArray).data.toList 601).toArray⟩ : ByteArray) = R at hr hrl
  simp only [show ((601 : Nat) : Int) = 601 from rfl] at hr
  have p3 := fun wx => pack_big R wx (by omega)
  have s2 : (PA.size : Int) ≤ A.size + (A.size + 127) / 128 := by omega
  have s3 : (A.size : Int) ≤ 600 := by omega
  have HR := hid hr
  have P1 := hid p1
  have P2 := hid p2
  have P3 := hid p3
  clear p1 p2 p3 hr hrl hu q1 hes
  go_enter Try.func7, Try.ntmps7
  go_wp2_with fail
  refine (P1.out _).mono ?_
  rintro _ w2 ⟨rfl, g1⟩
  go_wp2_with fail
  refine (P2.out _).mono ?_
  rintro _ w3 ⟨rfl, g2⟩
  go_wp2_with fail
  refine (HR.out _).mono ?_
  rintro _ w4 ⟨rfl, g3⟩
  go_wp2_with fail
  refine (P3.out _).mono ?_
  rintro _ w5 ⟨rfl, g4⟩
  go_wp2
  go_ret
  exact ⟨rfl, ((g1.trans (g2.mono g1.size)).trans (g3.mono (Nat.le_trans g1.size g2.size))).trans (g4.mono (Nat.le_trans (Nat.le_trans g1.size g2.size) g3.size))⟩

set_option maxRecDepth 100000 in
theorem lifted (os : Os) (started : os.Started) (H : Type) (enc : TypeId × Value → H) :
    ReturnsInHanded {} Try.checked os 7 .any (Rows.packsBackSpec.pre6 enc Try.prog Try.f7 Rows.packsBackRow.domain false) (Rows.packsBackSpec.post enc Try.prog Try.f7 false true false false) := by
  refine returnsInHanded_of_change (C := Try.checked) own started (by kernel_rfl) Try.func7
    (ChangeSpec.witness6 (enc := enc) (C := Try.checked) false ⟨#[], #[.string ByteArray.empty], []⟩ 8 (by kernel_rfl) (by kernel_rfl) (by kernel_rfl) (by kernel_rfl)) ?_
  intro W base args ds gs before hval0 hW hcnd _
  have hval : ∀ (j : Nat) t v, Try.f7.params[j]? = some t → args[j]? = some v → Value.okWide Try.prog W .any base t v := hval0
  have hW' := hW
  obtain ⟨p, q, hA0, hV, rfl, hfz, hnd⟩ := hW
  have hA : DataW.TrodAll enc Try.prog W 0 (fun _ => true) true Try.f7.params.toList args.toList ds p := hA0
  rw [Try.params7] at hA hval
  obtain ⟨v0, vs0, d0, ds0, p0, q0, hargs, rfl, rfl, h0, r0⟩ := trodAll_cons hA
  obtain ⟨rfl, rfl, rfl⟩ := trodAll_nil r0
  obtain rfl : args = #[v0] := by cases args; simp_all
  obtain ⟨rfl, rfl⟩ := trodVars_none hV
  obtain ⟨a0, rfl, rfl, rfl, w0⟩ := open_string Try.underlying9 (hval 0 9 v0 rfl rfl) h0
  clear hA0 hval0
  refine (walk a0 w0 W).mono fun e W' ⟨he, bel⟩ => ?_
  subst he
  exact ⟨_, rfl, _, _, _, [], _, [], hW', trodAll_mk1 (shut_bool Try.underlying4 _), (trodAll_cons_mk (shut_string Try.underlying9 w0) trodAll_mk0), rfl, bel.frame _, fun h => by cases h⟩

theorem over : Rows.packsBackRow.holds Try.pinned (OpenSpec.ofChange Rows.packsBackSpec) :=
  OpenClaim.holds_of_wide 7 Try.f7 rfl rfl rfl rfl rfl rfl rfl ⟨rfl, rfl, rfl, rfl, rfl⟩ rfl rfl rfl rfl rfl (by kernel_rfl) Try.func7 (by kernel_rfl)
    (of_decide_eq_true (by kernel_rfl)) (by unfold Func.isWrapper; first | (rw [if_pos (by decide +kernel)]; kernel_rfl) | (rw [if_neg (by decide +kernel)]; exact ⟨rfl, rfl⟩))
    (fun os started H enc _ => lifted os started H enc)
end Go.Proofs.Ytlndioefemdpjaa.packsBack

namespace Go.Proofs.Ytlndioefemdpjaa
theorem packsBack_holds : Rows.PacksBackSaid := packsBack.over
#print axioms packsBack_holds
end Go.Proofs.Ytlndioefemdpjaa
