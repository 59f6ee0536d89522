/- For every text and number: ten digits and at most forty bytes of the text are packed to some bytes; with four to nine of their first bytes again behind them they are packed to at most six bytes more; no condition. -/
import Derived.Test.YtlndioefemdpjaaRows
import Derived.Test.YtlndioefemdpjaaPressPack
import Derived.Test.YtlndioefemdpjaaPressShortMath
import Derived.Test.YtlndioefemdpjaaPicked
import Derived.WalkKit
import Derived.ProofKit
import Derived.OpenShut
import Derived.ShutString
namespace Go.Proofs.Ytlndioefemdpjaa.packsShort
open Go.ChangeShapes Go.WideShapes Go.ChangeAt Go.RowKit
open Go.ChangeMaps (open_string shut_string)

theorem own : ownKnob Try.prog.godebug = none := by kernel_rfl

set_option maxHeartbeats 800000 in
set_option maxRecDepth 4000 in
theorem walk (a0 : ByteArray) (a1 : Int) (_w0 : a0.size ≤ maxLen) (w1 : (Lit.int .i64 a1).wf = true) (w : World) :
    Calls Try.prog 8 #[.string a0, .int .i64 a1] w fun e w' => e = .returned (.bool true) ∧ Below w.heap.size w w' := by
  have b1 := bounds_i64 w1
  have hb1 : -9223372036854775808 ≤ a1 := by omega
  have hb2 : a1 ≤ 9223372036854775807 := by omega
  have hpk := fun wx => picked_any a1 6 wx hb1 hb2 (by omega) (by omega)
  have hpd := pick_bd a1 6 (by omega)
  generalize pick a1 6 = k at hpk hpd
  obtain ⟨n, mn, hn1, hn2⟩ : ∃ n : Nat, (if (40 : Int) < a0.size then 40 else (a0.size : Int)) = n ∧ n ≤ 40 ∧ n ≤ a0.size := ⟨min a0.size 40, by split <;> omega, by omega, by omega⟩
  obtain ⟨A, hA⟩ : ∃ A, (⟨#[48, 49, 50, 51, 52, 53, 54, 55, 56, 57]⟩ : ByteArray) ++ a0.extract 0 n = A := ⟨_, rfl⟩
  have hes := ext_size a0 0 n hn2
  have hd : (⟨#[48, 49, 50, 51, 52, 53, 54, 55, 56, 57]⟩ : ByteArray).size = 10 := rfl
  have hAs : A.size = 10 + n := by rw [← hA, ByteArray.size_append, hes, hd, Nat.sub_zero]
  have ha1 : ∀ wx, (Op.stringOp .add ⟨#[48, 49, 50, 51, 52, 53, 54, 55, 56, 57]⟩ (a0.extract 0 n)).run Try.prog wx = .ok (.string A) wx := fun wx => by
    rw [← hA]; exact run_string_add_sum wx _ _ (by rw [hes, hd]; omega)
  obtain ⟨m, hm⟩ : ∃ m : Nat, 4 + k = m := ⟨(4 + k).toNat, by omega⟩
  have hm4 : 4 ≤ m := by omega
  have hm9 : m ≤ 9 := by omega
  obtain ⟨B, hB⟩ : ∃ B, A ++ A.extract 0 m = B := ⟨_, rfl⟩
  have hes2 := ext_size A 0 m (by omega)
  have hBs : B.size = 10 + n + m := by rw [← hB, ByteArray.size_append, hes2, hAs, Nat.sub_zero]
  have ha2 : ∀ wx, (Op.stringOp .add A (A.extract 0 m)).run Try.prog wx = .ok (.string B) wx := fun wx => by
    rw [← hB]; exact run_string_add_sum wx _ _ (by rw [hes2, hAs]; omega)
  have hlist : B.data.toList = A.data.toList ++ A.data.toList.take m := by
    rw [← hB, ByteArray.data_append, Array.toList_append, ext_list, cut, List.drop_zero]
  have p1 := fun wx => pack_any A wx (by omega)
  have p2 := fun wx => pack_any B wx (by omega)
  have q1 := packed_pos A.data.toList (by rw [ba_len]; omega) (by rw [ba_len]; omega)
  have q2 := packed_again A.data.toList m (by rw [ba_len]; omega) (by rw [ba_len]; omega) hm4
  have q3 := packed_length A.data.toList
  rw [ba_len] at q3
  rw [← hlist] at q2
  rw [← str_size] at q1 q2 q3
  rw [← str_size] at q2
  generalize str (packed A.data.toList) = PA at p1 q1 q2 q3
  generalize str (packed B.data.toList) = PB at p2 q2
  have m1 : (m : Int) ≤ A.size := by omega
  have m2 : (n : Int) ≤ a0.size := by omega
  have s1 : (0 : Int) < PA.size := by omega
  have s2 : (PB.size : Int) ≤ PA.size + 6 := by omega
  have s3 : (PA.size : Int) ≤ 100 := by omega
  have HK := hid hpk
  have P1 := hid p1
  have P2 := hid p2
  clear hpk hpd p1 p2 q1 q2 q3 hlist hB hA hes hes2 hd hAs hBs
  go_enter Try.func8, Try.ntmps8
  go_wp2_with fail
  refine (P1.out _).mono ?_
  rintro _ w2 ⟨rfl, g1⟩
  go_wp2_with fail
  refine (HK.out _).mono ?_
  rintro _ _ ⟨rfl, rfl⟩
  go_wp2_with fail
  refine (P2.out _).mono ?_
  rintro _ w3 ⟨rfl, g2⟩
  go_wp2
  go_ret
  exact ⟨rfl, g1.trans (g2.mono g1.size)⟩

set_option maxRecDepth 100000 in
theorem lifted (os : Os) (started : os.Started) (H : Type) (enc : TypeId × Value → H) :
    ReturnsInHanded {} Try.checked os 8 .any (Rows.packsShortSpec.pre6 enc Try.prog Try.f8 Rows.packsShortRow.domain false) (Rows.packsShortSpec.post enc Try.prog Try.f8 false true false false) := by
  refine returnsInHanded_of_change (C := Try.checked) own started (by kernel_rfl) Try.func8
    (ChangeSpec.witness6 (enc := enc) (C := Try.checked) false ⟨#[], #[.string ByteArray.empty, .int .i64 0], []⟩ 8 (by kernel_rfl) (by kernel_rfl) (by kernel_rfl) (by kernel_rfl)) ?_
  intro W base args ds gs before hval0 hW hcnd _
  have hval : ∀ (j : Nat) t v, Try.f8.params[j]? = some t → args[j]? = some v → Value.okWide Try.prog W .any base t v := hval0
  have hW' := hW
  obtain ⟨p, q, hA0, hV, rfl, hfz, hnd⟩ := hW
  have hA : DataW.TrodAll enc Try.prog W 0 (fun _ => true) true Try.f8.params.toList args.toList ds p := hA0
  rw [Try.params8] at hA hval
  obtain ⟨v0, vs0, d0, ds0, p0, q0, hargs, rfl, rfl, h0, r0⟩ := trodAll_cons hA
  obtain ⟨v1, vs1, d1, ds1, p1, q1, rfl, rfl, rfl, h1, r1⟩ := trodAll_cons r0
  obtain ⟨rfl, rfl, rfl⟩ := trodAll_nil r1
  obtain rfl : args = #[v0, v1] := by cases args; simp_all
  obtain ⟨rfl, rfl⟩ := trodVars_none hV
  obtain ⟨a0, rfl, rfl, rfl, w0⟩ := open_string Try.underlying9 (hval 0 9 v0 rfl rfl) h0
  obtain ⟨a1, rfl, rfl, rfl, w1⟩ := open_int Try.underlying3 (hval 1 3 v1 rfl rfl) h1
  clear hA0 hval0
  refine (walk a0 a1 w0 w1 W).mono fun e W' ⟨he, bel⟩ => ?_
  subst he
  exact ⟨_, rfl, _, _, _, [], _, [], hW', trodAll_mk1 (shut_bool Try.underlying4 _), (trodAll_cons_mk (shut_string Try.underlying9 w0) (trodAll_cons_mk (shut_int Try.underlying3 w1) trodAll_mk0)), rfl, bel.frame _, fun h => by cases h⟩

theorem over : Rows.packsShortRow.holds Try.pinned (OpenSpec.ofChange Rows.packsShortSpec) :=
  OpenClaim.holds_of_wide 8 Try.f8 rfl rfl rfl rfl rfl rfl rfl ⟨rfl, rfl, rfl, rfl, rfl⟩ rfl rfl rfl rfl rfl (by kernel_rfl) Try.func8 (by kernel_rfl)
    (of_decide_eq_true (by kernel_rfl)) (by unfold Func.isWrapper; first | (rw [if_pos (by decide +kernel)]; kernel_rfl) | (rw [if_neg (by decide +kernel)]; exact ⟨rfl, rfl⟩))
    (fun os started H enc _ => lifted os started H enc)
end Go.Proofs.Ytlndioefemdpjaa.packsShort

namespace Go.Proofs.Ytlndioefemdpjaa
theorem packsShort_holds : Rows.PacksShortSaid := packsShort.over
#print axioms packsShort_holds
end Go.Proofs.Ytlndioefemdpjaa
