/- For every text, number and byte: where the text has a byte and the byte is not 0, the text with that byte added to one of its bytes (the number says which) has another seal; else the seal has four bytes; no condition. -/
import Derived.Test.YtccanjncnniahaaRows
import Derived.Test.YtccanjncnniahaaSumWalks
import Derived.Test.YtccanjncnniahaaPicked
import Derived.WalkKit
import Derived.ProofKit
import Derived.OpenShut
import Derived.ShutString
namespace Go.Proofs.Ytccanjncnniahaa.sumsTell
open Go.ChangeShapes Go.WideShapes Go.ChangeAt Go.RowKit
open Go.ChangeMaps (open_string shut_string)

theorem own : ownKnob Try.prog.godebug = none := by kernel_rfl

theorem hid {p : Prop} (h : p) : Hid p := h
theorem row_laid (s : ByteArray) (cap : Nat) : ∃ C : Array Value, bytesRow s cap = C ∧ s.size ≤ C.size ∧ ∀ j (hj : j < s.size), C[j]? = some (.int .u8 (s[j].toNat : Int)) :=
  ⟨_, rfl, by simp [bytesRow], fun j hj => bytesRow_at s cap j hj⟩

/-- The bytes with one of them turned, as the memory holds them, come back as a text. -/
theorem conv_back (w : World) (s : ByteArray) (cap : Nat) (C : Array Value) (k : Nat) (hk : k < s.size) (v : Int) (v0 : 0 ≤ v) (v1 : v < 256) (hcell : ∀ j (hj : j < s.size), C[j]? = some (.int .u8 (s[j].toNat : Int))) :
    (convert 24 9 (.slice (some ⟨w.heap.size, 0, none⟩) s.size cap)).run Try.prog ((w.alloc (.cells C 5 (C.size, C.size + 1))).setCell ⟨w.heap.size, k, none⟩ (.int .u8 v)).drew
      = .ok (.string (str (s.data.toList.set k (byt v)))) ((w.alloc (.cells C 5 (C.size, C.size + 1))).setCell ⟨w.heap.size, k, none⟩ (.int .u8 v)).drew := by
  have hlen : (s.data.toList.set k (byt v)).length = s.size := by rw [List.length_set, Array.length_toList]; rfl
  have h := run_convert_bytes_back (P := Try.prog) ((w.alloc (.cells C 5 (C.size, C.size + 1))).setCell ⟨w.heap.size, k, none⟩ (.int .u8 v)).drew 24 9 5 ⟨w.heap.size, 0, none⟩ cap (s.data.toList.set k (byt v)) Try.underlying24 Try.underlying5 Try.underlying9 (by
    intro j hj
    have hj' : j < s.size := by rw [hlen] at hj; exact hj
    show ((w.alloc (.cells C 5 (C.size, C.size + 1))).setCell ⟨w.heap.size, k, none⟩ (.int .u8 v)).cell? _ = _
    have ha : (Addr.add ⟨w.heap.size, 0, none⟩ j) = ⟨w.heap.size, j, none⟩ := by
      simp only [Addr.add, Nat.zero_add]
      split <;> simp_all
    rw [ha, List.getElem_set]
    by_cases e : k = j
    · subst e
      rw [World.cell?_setCell_same _ _ _ (u := .int .u8 (s[k].toNat : Int)) (by rw [World.cell?_alloc_mark]; exact hcell k hk)]
      simp [byt_nat v v0 v1]
    · rw [World.cell?_setCell_other _ _ _ _ (fun x => e (congrArg Addr.off x)), World.cell?_alloc_mark, hcell j hj', if_neg e]
      rfl)
  rw [hlen] at h
  exact h

/-- The turned byte is another one. -/
theorem byte_other (x : UInt8) (c : Int) (h0 : 0 < c) (h1 : c < 256) : byt ((x.toNat + c) % 256) ≠ x := by
  intro e
  have h := byt_nat (((x.toNat : Int) + c) % 256) (by omega) (by omega)
  rw [e] at h
  have := x.toNat_lt
  omega

set_option maxHeartbeats 400000 in
theorem tell_yes (s : ByteArray) (n : Int) (c : Int) (w : World) (hs : s.size ≤ maxLen) (hn : -9223372036854775808 ≤ n) (hn' : n ≤ 9223372036854775807) (hc : 0 < c) (hc' : c < 256) (h0 : 0 < s.size) :
    Calls Try.prog 4 #[.string s, .int .i64 n, .int .u8 c] w fun e w' => e = .returned (.bool true) ∧ Below w.heap.size w w' := by
  have hm := hs
  unfold maxLen at hs
  have hconv := run_bytes_of_string (P := Try.prog) w 9 24 5 s Try.underlying9 Try.underlying24 Try.underlying5
  generalize grownCap w s.size 0 5 = cap at hconv
  obtain ⟨C, hC, hsz, hcell⟩ := row_laid s cap
  rw [hC] at hconv
  clear hC
  have e1 : ((s.size : Int) == 0) = false := by simp; intro h; simp [h] at h0
  have e2 : (c == 0) = false := by simp; omega
  have hp := pick_bd n s.size (by omega)
  obtain ⟨k, hk⟩ := Int.eq_ofNat_of_zero_le hp.1
  have hpick := fun wx => picked_any n s.size wx hn hn' (by omega) (by omega)
  rw [hk] at hp hpick
  have hks : k < s.size := by omega
  clear hk hp
  have Hpick := hid hpick
  clear hpick
  have hl : (w.alloc (.cells C 5 (C.size, C.size + 1))).cell? ⟨w.heap.size, k, none⟩ = some (.int .u8 (s[k].toNat : Int)) := by rw [World.cell?_alloc_mark]; exact hcell k hks
  have hf : (w.alloc (.cells C 5 (C.size, C.size + 1))).frozen? ⟨w.heap.size, k, none⟩ = false := by rw [World.frozen?_alloc_mark]; simp; omega
  have hb1 : (s[k].toNat : Int) ≤ 255 := by have := s[k].toNat_lt; omega
  have hb0 : 0 ≤ (s[k].toNat : Int) := by omega
  have hback := conv_back w s cap C k hks (((s[k].toNat : Int) + c) % 256) (by omega) (by omega) hcell
  have hne := sealOf_other s.data.toList k (by simpa using hks) (byt (((s[k].toNat : Int) + c) % 256)) (byte_other s[k] c hc hc')
  have Hne := hid hne
  have hsz2 : (str (s.data.toList.set k (byt (((s[k].toNat : Int) + c) % 256)))).size ≤ maxLen := by rw [str_size, List.length_set, Array.length_toList]; exact hm
  clear hne hcell
  go_enter Try.func4, Try.ntmps4
  go_wp2_with (go_at_call 7; refine (Hpick.out _).mono ?_; rintro e w' ⟨rfl, rfl⟩)
  refine (of_any _ _ hsz2).mono ?_
  rintro e w1 ⟨rfl, g1⟩
  go_wp2_with fail
  refine (of_any _ _ hm).mono ?_
  rintro e w2 ⟨rfl, g2⟩
  rw [str_list]
  go_wp2
  go_ret
  have hb : Below w.heap.size w ((w.alloc (.cells C 5 (C.size, C.size + 1))).setCell ⟨w.heap.size, k, none⟩ (.int .u8 (((s[k].toNat : Int) + c) % 256))).drew :=
    (((Below.refl _ _).alloc (Nat.le_refl _) _).setCell (Nat.le_refl _) _).drew
  refine ⟨ret_bool ?_, (hb.trans (g1.mono hb.size)).trans (g2.mono (Nat.le_trans hb.size g1.size))⟩
  rw [ByteArray.toList_eq, ByteArray.toList_eq, str_list, str_list]
  simpa using Hne.out

theorem len4 (l : List UInt8) : (str (sealOf l)).size = 4 := rfl

set_option maxHeartbeats 400000 in
theorem tell_no (s : ByteArray) (n : Int) (c : Int) (w : World) (hs : s.size ≤ maxLen) (h0 : s.size = 0 ∨ c = 0) :
    Calls Try.prog 4 #[.string s, .int .i64 n, .int .u8 c] w fun e w' => e = .returned (.bool true) ∧ Below w.heap.size w w' := by
  have hm := hs
  unfold maxLen at hs
  have hconv := run_bytes_of_string (P := Try.prog) w 9 24 5 s Try.underlying9 Try.underlying24 Try.underlying5
  generalize grownCap w s.size 0 5 = cap at hconv
  generalize bytesRow s cap = C at hconv
  have z : ∀ l, (str (sealOf l)).size = 4 := len4
  by_cases e1 : ((s.size : Int) == 0) = true
  · go_enter Try.func4, Try.ntmps4
    go_wp2_with fail
    refine (of_any _ _ hm).mono ?_
    rintro e w1 ⟨rfl, g1⟩
    go_wp2
    go_ret
    have hb : Below w.heap.size w (w.alloc (.cells C 5 (C.size, C.size + 1))).drew := ((Below.refl _ _).alloc (Nat.le_refl _) _).drew
    exact ⟨rfl, hb.trans (g1.mono hb.size)⟩
  · have e2 : (c == 0) = true := by
      rcases h0 with h0 | h0
      · rw [h0] at e1; simp at e1
      · simp [h0]
    have e3 : ((s.size : Int) == 0) = false := by simpa using e1
    clear e1 h0
    go_enter Try.func4, Try.ntmps4
    go_wp2_with fail
    refine (of_any _ _ hm).mono ?_
    rintro e w1 ⟨rfl, g1⟩
    go_wp2
    go_ret
    have hb : Below w.heap.size w (w.alloc (.cells C 5 (C.size, C.size + 1))).drew := ((Below.refl _ _).alloc (Nat.le_refl _) _).drew
    exact ⟨rfl, hb.trans (g1.mono hb.size)⟩

theorem walk (a0 : ByteArray) (a1 : Int) (a2 : Int) (w0 : a0.size ≤ maxLen) (w1 : (Lit.int .i64 a1).wf = true) (w2 : (Lit.int .u8 a2).wf = true) (w : World) :
    Calls Try.prog 4 #[.string a0, .int .i64 a1, .int .u8 a2] w fun e w' => e = .returned (.bool true) ∧ Below w.heap.size w w' := by
  have b1 := bounds_i64 w1
  have b2 := bounds_u8 w2
  by_cases h : a0.size = 0 ∨ a2 = 0
  · exact tell_no a0 a1 a2 w w0 h
  · exact tell_yes a0 a1 a2 w w0 (by omega) (by omega) (by omega) (by omega) (by omega)

set_option maxRecDepth 100000 in
theorem lifted (os : Os) (started : os.Started) (H : Type) (enc : TypeId × Value → H) :
    ReturnsInHanded {} Try.checked os 4 .any (Rows.sumsTellSpec.pre6 enc Try.prog Try.f4 Rows.sumsTellRow.domain false) (Rows.sumsTellSpec.post enc Try.prog Try.f4 false true false false) := by
  refine returnsInHanded_of_change (C := Try.checked) own started (by kernel_rfl) Try.func4
    (ChangeSpec.witness6 (enc := enc) (C := Try.checked) false ⟨#[], #[.string ByteArray.empty, .int .i64 0, .int .u8 0], []⟩ 8 (by kernel_rfl) (by kernel_rfl) (by kernel_rfl) (by kernel_rfl)) ?_
  intro W base args ds gs before hval0 hW hcnd _
  have hval : ∀ (j : Nat) t v, Try.f4.params[j]? = some t → args[j]? = some v → Value.okWide Try.prog W .any base t v := hval0
  have hW' := hW
  obtain ⟨p, q, hA0, hV, rfl, hfz, hnd⟩ := hW
  have hA : DataW.TrodAll enc Try.prog W 0 (fun _ => true) true Try.f4.params.toList args.toList ds p := hA0
  rw [Try.params4] at hA hval
  obtain ⟨v0, vs0, d0, ds0, p0, q0, hargs, rfl, rfl, h0, r0⟩ := trodAll_cons hA
  obtain ⟨v1, vs1, d1, ds1, p1, q1, rfl, rfl, rfl, h1, r1⟩ := trodAll_cons r0
  obtain ⟨v2, vs2, d2, ds2, p2, q2, rfl, rfl, rfl, h2, r2⟩ := trodAll_cons r1
  obtain ⟨rfl, rfl, rfl⟩ := trodAll_nil r2
  obtain rfl : args = #[v0, v1, v2] := by cases args; simp_all
  obtain ⟨rfl, rfl⟩ := trodVars_none hV
  obtain ⟨a0, rfl, rfl, rfl, w0⟩ := open_string Try.underlying9 (hval 0 9 v0 rfl rfl) h0
  obtain ⟨a1, rfl, rfl, rfl, w1⟩ := open_int Try.underlying3 (hval 1 3 v1 rfl rfl) h1
  obtain ⟨a2, rfl, rfl, rfl, w2⟩ := open_int Try.underlying5 (hval 2 5 v2 rfl rfl) h2
  clear hA0 hval0
  refine (walk a0 a1 a2 w0 w1 w2 W).mono fun e W' ⟨he, bel⟩ => ?_
  subst he
  exact ⟨_, rfl, _, _, _, [], _, [], hW', trodAll_mk1 (shut_bool Try.underlying4 _), (trodAll_cons_mk (shut_string Try.underlying9 w0) (trodAll_cons_mk (shut_int Try.underlying3 w1) (trodAll_cons_mk (shut_int Try.underlying5 w2) trodAll_mk0))), rfl, bel.frame _, fun h => by cases h⟩

theorem over : Rows.sumsTellRow.holds Try.pinned (OpenSpec.ofChange Rows.sumsTellSpec) :=
  OpenClaim.holds_of_wide 4 Try.f4 rfl rfl rfl rfl rfl rfl rfl ⟨rfl, rfl, rfl, rfl, rfl⟩ rfl rfl rfl rfl rfl (by kernel_rfl) Try.func4 (by kernel_rfl)
    (of_decide_eq_true (by kernel_rfl)) (by unfold Func.isWrapper; first | (rw [if_pos (by decide +kernel)]; kernel_rfl) | (rw [if_neg (by decide +kernel)]; exact ⟨rfl, rfl⟩))
    (fun os started H enc _ => lifted os started H enc)
end Go.Proofs.Ytccanjncnniahaa.sumsTell

namespace Go.Proofs.Ytccanjncnniahaa
theorem sumsTell_holds : Rows.SumsTellSaid := sumsTell.over
#print axioms sumsTell_holds
end Go.Proofs.Ytccanjncnniahaa
