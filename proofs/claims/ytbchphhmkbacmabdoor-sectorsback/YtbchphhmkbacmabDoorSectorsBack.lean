/- For every number, text, place and byte: a sector made of them is read as it was written, with 0s behind it; under the next number it is refused; and where the byte is not 0, the sector with that byte added to one of its bytes (the place says which) is refused as spoilt. No condition but that two tables of Go's library are as its text lays them (the card ties them; no step of the proof looks into them). -/
import Derived.Test.YtbchphhmkbacmabDoorRows
import Derived.Test.YtbchphhmkbacmabDoorCards
import Derived.Test.YtbchphhmkbacmabDoorTie
import Derived.Test.YtbchphhmkbacmabDoorSectorEnc
import Derived.Test.YtbchphhmkbacmabDoorSectorDec
import Derived.Test.YtbchphhmkbacmabDoorPicked
import Derived.Test.YtbchphhmkbacmabDoorTurned
import Derived.WalkKit
import Derived.ProofKit
import Derived.OpenShut
import Derived.ShutString
import Derived.Lay
import Derived.SevenTiedAt
import Derived.Stop.Joined
namespace Go.Proofs.YtbchphhmkbacmabDoor.sectorsBack
open Go.ChangeShapes Go.WideShapes Go.ChangeAt Go.RowKit
open Go.ChangeMaps (open_string shut_string)

theorem own : ownKnob Tryd.prog.godebug = none := by kernel_rfl

theorem trim_noughts (n : Nat) : Lib.trimB (List.replicate n 0) 0 = [] := by
  have h : ∀ n : Nat, (List.replicate n (0 : UInt8)).dropWhile (· == 0) = [] := fun n => by
    induction n with
    | zero => rfl
    | succ n ih => rw [List.replicate_succ, List.dropWhile_cons_of_pos (by simp)]; exact ih
  rw [Lib.trimB, Lib.trimRightB, List.reverse_replicate, h]
  rfl
theorem pad_prefix (l : List UInt8) : Lib.hasPrefix (pad l) l = true := by
  rw [Lib.hasPrefix, List.isPrefixOf_iff_prefix]; exact List.prefix_append _ _

set_option maxHeartbeats 1600000 in
set_option maxRecDepth 4000 in
theorem walk (a0 : Int) (a1 : ByteArray) (a2 : Int) (a3 : Int) (w0 : (Lit.int .i64 a0).wf = true) (_w1 : a1.size ≤ maxLen) (w2 : (Lit.int .i64 a2).wf = true) (w3 : (Lit.int .u8 a3).wf = true) (w : World) :
    Calls Tryd.prog 3 #[.int .i64 a0, .string a1, .int .i64 a2, .int .u8 a3] w fun e w' => e = .returned (.bool true) ∧ Below w.heap.size w w' := by
  have b0 := bounds_i64 w0
  have b2 := bounds_i64 w2
  have b3 := bounds_u8 w3
  have hp1 := fun wx => picked_any a0 65535 wx (by omega) (by omega) (by omega) (by omega)
  have hp2 := fun wx => picked_any a2 30 wx (by omega) (by omega) (by omega) (by omega)
  have d1 := pick_bd a0 65535 (by omega)
  have d2 := pick_bd a2 30 (by omega)
  generalize pick a0 65535 = n at hp1 d1
  obtain ⟨k, hk⟩ := Int.eq_ofNat_of_zero_le d2.1
  rw [hk] at hp2 d2
  clear hk
  obtain ⟨m, mn, hm1, hm2⟩ : ∃ m : Nat, min (a1.size : Int) 24 = m ∧ m ≤ 24 ∧ m ≤ a1.size := ⟨min a1.size 24, by omega, by omega, by omega⟩
  have m2 : (m : Int) ≤ a1.size := by omega
  have hes := ext_size a1 0 m hm2
  obtain ⟨A, hA⟩ : ∃ A, a1.extract 0 m = A := ⟨_, rfl⟩
  rw [hA, Nat.sub_zero] at hes
  have hAl : A.data.toList.length ≤ 24 := by rw [ba_len]; omega
  have p1 := fun wx => encode_any n A wx
  have p2 := fun wx => decode_any n (str (encd n A.data.toList).1) wx
  have p3 := fun wx => decode_any (n + 1) (str (encd n A.data.toList).1) wx
  rw [str_list, decd_encd n _ (by omega) (by omega) hAl] at p2
  rw [str_list, decd_other n (n + 1) _ (by omega) (by omega) hAl (by omega)] at p3
  rw [encd_ok n _ (by omega) (by omega) hAl] at p1 p2 p3
  have hBs : (str (sealed (body n A.data.toList))).size = 30 := by rw [str_size, sealed_length, body_length _ _ hAl]
  have hsp := decd_spoilt n (body n A.data.toList) (body_length _ _ hAl) k (by omega)
  have hbl : (str (sealed (body n A.data.toList))).data.toList = sealed (body n A.data.toList) := str_list _
  rw [← hbl] at hsp
  dsimp only at p1 p2 p3
  generalize str (sealed (body n A.data.toList)) = B at p1 p2 p3 hBs hsp
  have hkB : k < B.size := by omega
  have hbk := bat_ba B k hkB
  rw [hbk] at hsp
  have c1 : ((B[k]'hkB).toNat : Int) ≤ 255 := by have := (B[k]'hkB).toNat_lt; omega
  have c0 : 0 ≤ ((B[k]'hkB).toNat : Int) := by omega
  have p4 := fun wx => decode_any n (str (B.data.toList.set k (byt ((((B[k]'hkB).toNat : Int) + a3) % 256)))) wx
  rw [str_list] at p4
  have hne : 0 < a3 → (decd n (B.data.toList.set k (byt ((((B[k]'hkB).toNat : Int) + a3) % 256)))).2 = 10 := fun h => by
    rw [hsp _ (byte_other (B[k]'hkB) a3 h (by omega))]
  have hT : (str (pad A.data.toList)).size = 24 := by rw [str_size, pad_length _ hAl]
  have q1 := fun wx => Tryd.strings_HasPrefix (str (pad A.data.toList)) A wx
  rw [str_list, pad_prefix] at q1
  have q2 := fun wx => Tryd.strings_Trim_one ((str (pad A.data.toList)).extract A.size 24) 0 (by decide) wx (by rw [ext_size _ _ _ (by omega)]; omega)
  have ht : ((str (pad A.data.toList)).extract A.size 24).data.toList = List.replicate (24 - A.size) 0 := by
    rw [ext_list, str_list, cut, List.take_of_length_le (by rw [pad_length _ hAl]; omega), pad, ← ba_len A, List.drop_left]
  rw [ht, trim_noughts] at q2
  have qz : (⟨([] : List UInt8).toArray⟩ : ByteArray) = ⟨#[]⟩ := rfl
  rw [qz, hes] at q2
  have hw9 : ∀ (B : Nat) (x y z : World), Below B x y → (z = y ∨ z = y.drew) → Below B x z := fun B x y z h e => by
    rcases e with rfl | rfl
    · exact h
    · exact h.drew
  generalize str (pad A.data.toList) = T at p2 hT q1 q2
  generalize str (decd n (B.data.toList.set k (byt ((((B[k]'hkB).toNat : Int) + a3) % 256)))).1 = D1 at p4
  generalize (decd n (B.data.toList.set k (byt ((((B[k]'hkB).toNat : Int) + a3) % 256)))).2 = D2 at p4 hne
  obtain ⟨SP, hSP⟩ : ∃ SP, str (B.data.toList.set k (byt ((((B[k]'hkB).toNat : Int) + a3) % 256))) = SP := ⟨_, rfl⟩
  rw [hSP] at p4
  have n1 : n + 1 ≤ 65535 := by omega
  have hks : k < 30 := by omega
  have d10 := d1.1
  have HP1 := hid hp1
  have HP2 := hid hp2
  have P1 := hid p1
  have P2 := hid p2
  have P3 := hid p3
  have P4 := hid p4
  have Q1 := hid q1
  have Q2 := hid q2
  have HW := hid hw9
  have HN := hid hne
  clear hp1 hp2 p1 p2 p3 p4 q1 q2 hw9 hne ht qz hsp hbl hbk d1 d2
  go_enter Tryd.func3, Tryd.ntmps3
  go_wp2_with fail
  refine (HP1.out _).mono ?_
  rintro _ _ ⟨rfl, rfl⟩
  go_wp2_with fail
  refine (P1.out _).mono ?_
  rintro _ w1 ⟨rfl, g1⟩
  go_wp2_with fail
  refine (P2.out _).mono ?_
  rintro _ w2 ⟨rfl, g2⟩
  go_wp2_with fail
  refine (P3.out _).mono ?_
  rintro _ w3 ⟨rfl, g3⟩
  have hconv := run_bytes_of_string (P := Tryd.prog) w3 9 26 5 B Tryd.underlying9 Tryd.underlying26 Tryd.underlying5
  generalize grownCap w3 B.size 0 5 = cap at hconv
  obtain ⟨C, hC, hsz, hcell⟩ := row_laid B cap
  rw [hC, hBs] at hconv
  clear hC
  have hl : (w3.alloc (.cells C 5 (C.size, C.size + 1))).cell? ⟨w3.heap.size, k, none⟩ = some (.int .u8 ((B[k]'hkB).toNat : Int)) := by rw [World.cell?_alloc_mark]; exact hcell k hkB
  have hf : (w3.alloc (.cells C 5 (C.size, C.size + 1))).frozen? ⟨w3.heap.size, k, none⟩ = false := by rw [World.frozen?_alloc_mark]; simp; omega
  have hback := conv_back w3 B cap C k hkB ((((B[k]'hkB).toNat : Int) + a3) % 256) (by omega) (by omega) hcell
  rw [hBs, hSP] at hback
  have hb : Below w3.heap.size w3 ((w3.alloc (.cells C 5 (C.size, C.size + 1))).setCell ⟨w3.heap.size, k, none⟩ (.int .u8 ((((B[k]'hkB).toNat : Int) + a3) % 256))).drew :=
    (((Below.refl _ _).alloc (Nat.le_refl _) _).setCell (Nat.le_refl _) _).drew
  have HB := hid hb
  clear hcell hb hSP
  go_wp2_with fail
  refine (HP2.out _).mono ?_
  rintro _ _ ⟨rfl, rfl⟩
  go_wp2_with fail
  refine (P4.out _).mono ?_
  intro e w4 h4
  have he := h4.1
  have g4 := h4.2
  clear h4
  subst he
  have G4 := hid ((g1.trans (g2.mono g1.size)).trans ((g3.trans ((HB.out.trans (g4.mono HB.out.size)).mono g3.size)).mono (Nat.le_trans g1.size g2.size)))
  clear HB hback hl hf hconv g1 g2 g3 g4
  go_wp2_with fail
  refine (Q1.out _).mono ?_
  rintro _ _ ⟨rfl, rfl⟩
  go_wp2_with fail
  refine (Q2.out _).mono ?_
  rintro _ w5 ⟨rfl, hw5⟩
  have H5 := hid (HW.out _ _ _ _ G4.out hw5)
  clear hw5
  by_cases e3 : (a3 == 0) = true
  · go_wp2
    go_ret
    exact ⟨rfl, H5.out⟩
  · have e4 : (a3 == 0) = false := by simpa using e3
    have e5 : D2 = 10 := HN.out (by have : a3 ≠ 0 := by simpa using e4
                                    omega)
    subst e5
    clear e3
    go_wp2
    go_ret
    exact ⟨rfl, H5.out⟩

set_option maxRecDepth 100000 in
theorem lifted (os : Os) (started : os.Started) (H : Type) (enc : TypeId × Value → H) :
    ReturnsInHanded {} Tryd.checked os 3 .any (fun w args => (Rows.sectorsBackSpec.pre enc Tryd.prog Tryd.f3 Rows.sectorsBackRow.domain false w args ∧ laidMetH Tryd.prog Rows.sectorsBackRow.laid w) ∧ sizedMet enc Tryd.prog Tryd.f3 (OpenSpec.ofChange Rows.sectorsBackSpec) false w args)
      (Rows.sectorsBackSpec.post enc Tryd.prog Tryd.f3 false true false false) := by
  refine returnsInHanded_of_change_and (C := Tryd.checked) (X := fun w _ => laidMetH Tryd.prog Rows.sectorsBackRow.laid w) (fun _ _ _ hh h => h.of_heap hh) own started (by kernel_rfl) Tryd.func3
    (ChangeSpec.witness_shaped (enc := enc) (C := Tryd.checked) (os := os) (X := fun w _ => laidMetH Tryd.prog Rows.sectorsBackRow.laid w) false (World.laidAll Tryd.prog os Rows.sectorsBackRow.laid) #[.int .i64 0, .string ByteArray.empty, .int .i64 0, .int .u8 0] 8 (World.laidAll_os _ _ _)
      (World.shaped_of_ZipB (by kernel_rfl) (by kernel_rfl)) (by kernel_rfl) (by kernel_rfl) (by kernel_rfl)
      (by rw [MakeChecks.laidMetH_plain _ _ _ (by kernel_rfl)]; exact laidMet_laidAll _ (by kernel_rfl) (by kernel_rfl))) ?_
  intro W base args ds gs before hval0 hW hcnd _ _hL _
  have hval : ∀ (j : Nat) t v, Tryd.f3.params[j]? = some t → args[j]? = some v → Value.okWide Tryd.prog W .any base t v := hval0
  have hW' := hW
  obtain ⟨p, q, hA0, hV, rfl, hfz, hnd⟩ := hW
  have hA : DataW.TrodAll enc Tryd.prog W 0 (fun _ => true) true Tryd.f3.params.toList args.toList ds p := hA0
  rw [Tryd.params3] at hA hval
  obtain ⟨v0, vs0, d0, ds0, p0, q0, hargs, rfl, rfl, h0, r0⟩ := trodAll_cons hA
  obtain ⟨v1, vs1, d1, ds1, p1, q1, rfl, rfl, rfl, h1, r1⟩ := trodAll_cons r0
  obtain ⟨v2, vs2, d2, ds2, p2, q2, rfl, rfl, rfl, h2, r2⟩ := trodAll_cons r1
  obtain ⟨v3, vs3, d3, ds3, p3, q3, rfl, rfl, rfl, h3, r3⟩ := trodAll_cons r2
  obtain ⟨rfl, rfl, rfl⟩ := trodAll_nil r3
  obtain rfl : args = #[v0, v1, v2, v3] := by cases args; simp_all
  obtain ⟨rfl, rfl⟩ := trodVars_none hV
  obtain ⟨a0, rfl, rfl, rfl, w0⟩ := open_int Tryd.underlying3 (hval 0 3 v0 rfl rfl) h0
  obtain ⟨a1, rfl, rfl, rfl, w1⟩ := open_string Tryd.underlying9 (hval 1 9 v1 rfl rfl) h1
  obtain ⟨a2, rfl, rfl, rfl, w2⟩ := open_int Tryd.underlying3 (hval 2 3 v2 rfl rfl) h2
  obtain ⟨a3, rfl, rfl, rfl, w3⟩ := open_int Tryd.underlying5 (hval 3 5 v3 rfl rfl) h3
  clear hA0 hval0
  refine (walk a0 a1 a2 a3 w0 w1 w2 w3 W).mono fun e W' ⟨he, bel⟩ => ?_
  subst he
  exact ⟨_, rfl, _, _, _, [], _, [], hW', trodAll_mk1 (shut_bool Tryd.underlying4 _), (trodAll_cons_mk (shut_int Tryd.underlying3 w0) (trodAll_cons_mk (shut_string Tryd.underlying9 w1) (trodAll_cons_mk (shut_int Tryd.underlying3 w2) (trodAll_cons_mk (shut_int Tryd.underlying5 w3) trodAll_mk0)))), rfl, bel.frame _, fun h => by cases h⟩

theorem over : Rows.sectorsBackRow.holds Tryd.pinned (OpenSpec.ofChange Rows.sectorsBackSpec) :=
  OpenClaim.holds_of_wide 3 Tryd.f3 rfl rfl rfl rfl rfl rfl rfl ⟨rfl, rfl, rfl, rfl, rfl⟩ rfl rfl rfl rfl rfl (by kernel_rfl) Tryd.func3 (by kernel_rfl)
    (of_decide_eq_true (by kernel_rfl)) (by unfold Func.isWrapper; first | (rw [if_pos (by decide +kernel)]; kernel_rfl) | (rw [if_neg (by decide +kernel)]; exact ⟨rfl, rfl⟩))
    (fun os started H enc _ => lifted os started H enc)
end Go.Proofs.YtbchphhmkbacmabDoor.sectorsBack

namespace Go.Proofs.YtbchphhmkbacmabDoor
theorem sectorsBack_holds : Rows.SectorsBackCardSaid :=
  Claim7.holds_tied_plain_at .later [] [.data, .pinned] true (true, "847e7b9d7f3840257b3726d1a87b50718f2bccb0f65f74f81875f6cde11ef2f5") false
    sectorsBack.over (fun _ h => by cases h) (by kernel_rfl) (fun _ h => by cases h) sectorsBack_row_tie rfl ⟨rfl, rfl⟩ (by kernel_rfl) rfl
    (fun f fn hf hfn => by
      obtain rfl : f = 3 := Option.some.inj ((show Tryd.prog.funcNamed "arras/arraskeep.SectorsBack" = some 3 by kernel_rfl).symm.trans hf) |>.symm
      obtain rfl : fn = Tryd.f3 := (Option.some.inj (Tryd.func3.symm.trans hfn)).symm
      exact ⟨by kernel_rfl, fun j t ht => by
        rw [Tryd.params3] at ht
        have hm : t ∈ [3, 9, 3, 5] := by simpa using Array.mem_of_getElem? ht
        have hall : ([3, 9, 3, 5].all fun u => !Tryd.prog.wantsStandIn u) = true := by kernel_rfl
        exact (show Tryd.prog.wantsStandIn t = false by simpa using List.all_eq_true.1 hall t hm)⟩)
    (by kernel_rfl)
#print axioms sectorsBack_holds
end Go.Proofs.YtbchphhmkbacmabDoor
