/- For every list of raw things and every two numbers: a catalog that is made of them is read as it was written, with 0s behind it; with something else behind it, or cut short, it is refused; and it may be. No condition but that the listed tables of Go's library are as its text lays them (the card ties them; no step of the proof looks into them). -/
import Derived.Test.YtelgpiedchnncabDoorRows
import Derived.Test.YtelgpiedchnncabDoorCards
import Derived.Test.YtelgpiedchnncabDoorTie
import Derived.Test.YtelgpiedchnncabDoorCatKeepMade
import Derived.Test.YtelgpiedchnncabDoorCatEnc
import Derived.Test.YtelgpiedchnncabDoorCatNext
import Derived.WalkKit
import Derived.ProofKit
import Derived.OpenShut
import Derived.ShutString
import Derived.Lay
import Derived.SevenTiedAt
import Derived.Stop.Joined
namespace Go.Proofs.YtelgpiedchnncabDoor.catalogsBack
open Go.ChangeShapes Go.WideShapes Go.ChangeAt Go.RowKit
open Go.ChangeMaps (open_string shut_string)

theorem own : ownKnob Tryd.prog.godebug = none := by kernel_rfl
theorem laidOut : laidOutB Tryd.prog = true := by kernel_rfl

theorem rep_zero (n : Nat) : Lib.repeatL [0] n = List.replicate n 0 := by
  induction n with
  | zero => rfl
  | succ n ih => rw [Lib.repeatL, ih, List.replicate_succ]; rfl
theorem enc_len (R : List Raw4) (N : Nat) (h : N ≤ 9) : 2 ≤ (encB (kB R N, kE R N)).length ∧ (encB (kB R N, kE R N)).length ≤ 200 := by
  have h1 := encBs_len (kB R N) N (by rw [kB_len]; exact Nat.le_refl _)
  have h2 := encEs_len (kE R N) N (by rw [kE_len]; exact Nat.le_refl _) (fun j hj => by rw [kE_at R N j hj]; show (kName j).size ≤ 8; rw [kName, str_size]; simp)
  rw [show (kB R N).take N = kB R N from List.take_of_length_le (by rw [kB_len]; exact Nat.le_refl _)] at h1
  rw [show (kE R N).take N = kE R N from List.take_of_length_le (by rw [kE_len]; exact Nat.le_refl _)] at h2
  unfold encB
  simp only [List.length_append, List.length_singleton]
  omega

set_option maxHeartbeats 4000000 in
set_option maxRecDepth 4000 in
theorem walk (w : World) (a : Option Addr) (n c : Nat) (R : List Raw4) (x y : Int) (h : RawsAt w a n R) (w1 : (Lit.int .i64 x).wf = true) (w2 : (Lit.int .i64 y).wf = true) :
    Calls Tryd.prog 4 #[.slice a n c, .int .i64 x, .int .i64 y] w fun e w' => e = .returned (.bool true) ∧ Below w.heap.size w w' := by
  have bx := wf_i64 w1
  have by' := wf_i64 w2
  unfold i64Ok at bx by'
  have C1 := hid (kcat_any a n c R w h)
  obtain ⟨N, hN⟩ : ∃ N, min n 9 = N := ⟨_, rfl⟩
  rw [hN] at C1
  have hN9 : N ≤ 9 := by omega
  have ck := k_chk R N hN9
  obtain ⟨el1, el2⟩ := enc_len R N hN9
  obtain ⟨C, hC⟩ : ∃ C, (kB R N, kE R N) = C := ⟨_, rfl⟩
  rw [hC] at C1 ck el1 el2
  clear hC hN h
  have px := pick_bd x 50 (by omega)
  obtain ⟨P, hP⟩ : ∃ P : Nat, pick x 50 = P := ⟨(pick x 50).toNat, by omega⟩
  have C3 := hid (fun wx => picked_any x 50 wx (by omega) (by omega) (by omega) (by omega))
  rw [hP] at C3 px
  obtain ⟨Z, hZ⟩ : ∃ Z : Nat, (encB C).length = Z := ⟨_, rfl⟩
  have py := pick_bd y Z (by omega)
  obtain ⟨K, hK⟩ : ∃ K : Nat, pick y Z = K := ⟨(pick y Z).toNat, by omega⟩
  have C6 := hid (fun wx => picked_any y Z wx (by omega) (by omega) (by omega) (by omega))
  rw [hK] at C6 py
  have hK2 : K < Z := by omega
  have D1 := cat_back C ck P
  have D2 := cat_more C ck [0, 120] (by decide)
  have D3 := cat_cut C ck K (by omega)
  have hT : (str (encB C)).size = Z := by rw [str_size, hZ]
  have ENC : catEnc C = (encB C, 0) := by rw [catEnc, if_pos ck]
  have NXT : catNext C = ((atB C.1 C.1.length : Int), 0) := by rw [catNext, if_pos ck]
  have h8 := (blk_at C.1 C.1.length (chk_ok C ck).2.2.1).1
  have C4 : Hid (∀ wx, Calls Tryd.prog 10 #[.string ⟨#[0]⟩, .int .i64 P] wx fun e w' => e = .returned (.string (str (List.replicate P 0))) ∧ Below wx.heap.size wx w') := fun wx => by
    have := Tryd.strings_Repeat ⟨#[0]⟩ P wx (by omega) (by show 1 * P ≤ _; omega)
    rw [show (⟨#[0]⟩ : ByteArray).data.toList = [0] from rfl, rep_zero] at this
    exact this
  have a1 : ∀ wx, (Op.stringOp .add (str (encB C)) (str (List.replicate P 0))).run Tryd.prog wx = .ok (.string (str (encB C ++ List.replicate P 0))) wx := fun wx => by rw [← str_app]; exact run_string_add_sum wx _ _ (by rw [str_size, str_size, List.length_replicate]; omega)
  have a2 : ∀ wx, (Op.stringOp .add (str (encB C)) ⟨#[0, 120]⟩).run Tryd.prog wx = .ok (.string (str (encB C ++ [0, 120]))) wx := fun wx => by rw [← str_app]; exact run_string_add_sum wx _ _ (by rw [str_size]; show _ + 2 ≤ _; omega)
  have a3 : (str (encB C)).extract 0 K = str ((encB C).take K) := str_take _ _
  have DD1 : Hid (∀ wx, Calls Tryd.prog 5 #[.string (str (encB C ++ List.replicate P 0))] wx fun e w' => OutCt wx (C, 0) e w') := fun wx => by
    have := cdec_any (str (encB C ++ List.replicate P 0)) wx
    rw [str_list, D1] at this; exact this
  have DD2 : Hid (∀ wx, Calls Tryd.prog 5 #[.string (str (encB C ++ [0, 120]))] wx fun e w' => OutCt wx (nilC, 4) e w') := fun wx => by
    have := cdec_any (str (encB C ++ [0, 120])) wx
    rw [str_list, D2] at this; exact this
  have DD3 : Hid (∀ wx, Calls Tryd.prog 5 #[.string (str ((encB C).take K))] wx fun e w' => OutCt wx (nilC, 5) e w') := fun wx => by
    have := cdec_any (str ((encB C).take K)) wx
    rw [str_list, D3] at this; exact this
  have mx : max (Z : Int) 1 = Z := by omega
  clear D1 D2 D3
  generalize str (encB C ++ List.replicate P 0) = S1 at a1 DD1
  generalize str (encB C ++ [0, 120]) = S2 at a2 DD2
  generalize str ((encB C).take K) = S3 at a3 DD3
  generalize str (List.replicate P 0) = S4 at a1 C4
  have hKZ : (K : Int) ≤ Z := by omega
  go_enter Tryd.func4, Tryd.ntmps4
  go_wp2_with fail
  refine C1.out.mono ?_
  rintro _ w1 ⟨a1', n1, c1', a2', n2, c2', rfl, k1, g1⟩
  obtain ⟨W1, hW1⟩ : ∃ W1, W1 = w1.alloc (.cells #[.slice a1' n1 c1', .slice a2' n2 c2'] 25) := ⟨_, rfl⟩
  have b1 : Below w1.heap.size w1 W1 := by rw [hW1]; exact (Below.refl _ w1).alloc (Nat.le_refl _) _
  have X1 : Own W1 w1.heap.size 25 [.slice a1' n1 c1', .slice a2' n2 c2'] := by rw [hW1]; exact Own.made w1 25 [.slice a1' n1 c1', .slice a2' n2 c2']
  have E1 := cenc_any a1' n1 c1' a2' n2 c2' C W1 (k1.below b1)
  rw [ENC] at E1
  dsimp only at E1
  generalize str (encB C) = T at E1 a1 a2 a3 hT
  rw [hW1] at E1
  have HE := hid E1
  have H1 := hid (And.intro (k1.below b1) (And.intro X1 (And.intro (g1.trans (b1.mono g1.size)) hW1)))
  clear E1 k1 b1 X1 g1 hW1 C1 ENC
  go_wp2_with fail
  refine HE.out.mono ?_
  rintro _ w2 ⟨rfl, g2⟩
  rw [← H1.out.2.2.2] at g2
  have G2 := hid g2
  clear g2 HE
  go_wp2_with fail
  refine (C3.out _).mono ?_
  rintro _ w9 ⟨rfl, h9⟩
  have h8' := h9.symm
  subst h8'
  go_wp2_with fail
  refine (C4.out _).mono ?_
  rintro _ w3 ⟨rfl, g3⟩
  have G3 := hid (G2.out.trans (g3.mono G2.out.size))
  clear g3 G2 C3 C4
  go_wp2_with fail
  refine (DD1.out _).mono ?_
  rintro _ w4 ⟨d1, m1, f1, d2, m2, f2, rfl, k4, g4⟩
  obtain ⟨W4, hW4⟩ : ∃ W4, W4 = w4.alloc (.cells #[.slice d1 m1 f1, .slice d2 m2 f2] 25) := ⟨_, rfl⟩
  have b4 : Below w4.heap.size w4 W4 := by rw [hW4]; exact (Below.refl _ w4).alloc (Nat.le_refl _) _
  have X4 : Own W4 w4.heap.size 25 [.slice d1 m1 f1, .slice d2 m2 f2] := by rw [hW4]; exact Own.made w4 25 [.slice d1 m1 f1, .slice d2 m2 f2]
  have G4 := hid ((G3.out.trans (g4.mono G3.out.size)).trans (b4.mono (G3.out.trans (g4.mono G3.out.size)).size))
  have H4 := hid (And.intro (k4.below b4) (And.intro X4 hW4))
  clear g4 k4 b4 X4 hW4 G3 DD1
  go_upto_region 4 with fail
  rw [← H4.out.2.2]
  obtain ⟨p1, hp1⟩ : ∃ p, w1.heap.size = p := ⟨_, rfl⟩
  obtain ⟨p4, hp4⟩ : ∃ p, w4.heap.size = p := ⟨_, rfl⟩
  rw [hp1] at H1
  rw [hp4] at H4
  rw [hp1, hp4]
  have Q4 := hid (And.intro H1.out.1 (And.intro H1.out.2.1 (And.intro H1.out.2.2.1 (And.intro H4.out.1 (And.intro H4.out.2.1 G4.out)))))
  clear H1 H4 G4 hp1 hp4
  go_wp2_with fail
  refine (DD2.out _).mono ?_
  rintro _ w5 ⟨e1, i1, j1, e2, i2, j2, rfl, _, g5⟩
  have b5 : Below w5.heap.size w5 (w5.alloc (.cells #[.slice e1 i1 j1, .slice e2 i2 j2] 25)) := (Below.refl _ w5).alloc (Nat.le_refl _) _
  have G5 := hid (g5.trans (b5.mono g5.size))
  clear g5 b5 DD2
  go_wp2_with fail
  refine (C6.out _).mono ?_
  rintro _ w9 ⟨rfl, h9⟩
  have h8'' := h9.symm
  subst h8''
  go_wp2_with fail
  refine (DD3.out _).mono ?_
  rintro _ w6 ⟨e3, i3, j3, e4, i4, j4, rfl, _, g6⟩
  have g6' : Below W4.heap.size W4 w6 := G5.out.trans (g6.mono G5.out.size)
  have b6 : Below w6.heap.size w6 (w6.alloc (.cells #[.slice e3 i3 j3, .slice e4 i4 j4] 25)) := (Below.refl _ w6).alloc (Nat.le_refl _) _
  have G6 := g6'.trans (b6.mono g6'.size)
  obtain ⟨W6, hW6⟩ : ∃ W6, W6 = w6.alloc (.cells #[.slice e3 i3 j3, .slice e4 i4 j4] 25) := ⟨_, rfl⟩
  rw [← hW6] at G6
  clear g6 g6' b6 DD3 G5 C6
  have U1 := (Q4.out.2.1.below' Q4.out.2.2.2.2.2).below' G6
  have KC := (Q4.out.1.below Q4.out.2.2.2.2.2).below G6
  have U4 := Q4.out.2.2.2.2.1.below' G6
  have KD := Q4.out.2.2.2.1.below G6
  have c0 := U1.cell (i := 0) rfl
  have c1 := U1.cell (i := 1) rfl
  have NX := cnext_any a1' n1 c1' a2' n2 c2' C W6 KC
  rw [NXT] at NX
  dsimp only at NX
  have HNX := hid NX
  have Q6 := hid (And.intro U1 (And.intro U4 (And.intro KC (And.intro KD (Q4.out.2.2.1.trans ((Q4.out.2.2.2.2.2.trans (G6.mono Q4.out.2.2.2.2.2.size)).mono Q4.out.2.2.1.size))))))
  clear NX NXT U1 U4 KC KD Q4 G6
  go_upto_region 6 with fail
  rw [← hW6]
  clear hW6
  go_wp2_with fail
  refine HNX.out.mono ?_
  rintro _ w7 ⟨rfl, g7⟩
  have e1' : m1 = n1 := by rw [Q6.out.2.2.2.1.B.sn, ← Q6.out.2.2.1.B.sn]
  have e2' : m2 = n2 := by rw [Q6.out.2.2.2.1.E.sn, ← Q6.out.2.2.1.E.sn]
  subst e1' e2'
  have U1 := Q6.out.1.below' g7
  have U4 := Q6.out.2.1.below' g7
  have EQ1 := hid (equalK_any a1' m1 c1' d1 f1 C.1 w7 (Q6.out.2.2.1.below g7).B (Q6.out.2.2.2.1.below g7).B)
  have h8a : (8 : Int) ≤ (atB C.1 C.1.length : Int) := by omega
  generalize (atB C.1 C.1.length : Int) = AT at h8a
  clear c0 c1
  have c0 := U1.cell (i := 0) rfl
  have c1 := U1.cell (i := 1) rfl
  have d0 := U4.cell (i := 0) rfl
  have d1' := U4.cell (i := 1) rfl
  have G7 := hid g7
  clear g7 HNX U1 U4
  go_wp2_with fail
  refine EQ1.out.mono ?_
  rintro _ w8 ⟨rfl, g8⟩
  have G8 := hid (G7.out.trans (g8.mono G7.out.size))
  clear g8 G7 EQ1 c0 c1 d0 d1'
  have U1 := Q6.out.1.below' G8.out
  have U4 := Q6.out.2.1.below' G8.out
  have c0 := U1.cell (i := 0) rfl
  have c1 := U1.cell (i := 1) rfl
  have d0 := U4.cell (i := 0) rfl
  have d1' := U4.cell (i := 1) rfl
  have EQ2 := hid (equalE_any a2' m2 c2' d2 f2 C.2 w8 (Q6.out.2.2.1.below G8.out).E (Q6.out.2.2.2.1.below G8.out).E)
  clear U1 U4
  go_wp2_with fail
  refine EQ2.out.mono ?_
  rintro _ w9 ⟨rfl, g9⟩
  have G9 := hid (G8.out.trans (g9.mono G8.out.size))
  clear g9 G8 EQ2 c0 c1 d0 d1'
  have U1 := Q6.out.1.below' G9.out
  have c0 := U1.cell (i := 0) rfl
  have c1 := U1.cell (i := 1) rfl
  have CK := ccheck_any a1' m1 c1' a2' m2 c2' C w9 (Q6.out.2.2.1.below G9.out)
  rw [ck] at CK
  have HCK := hid CK
  clear CK U1
  go_wp2_with fail
  refine HCK.out.mono ?_
  rintro _ w10 ⟨rfl, g10⟩
  go_wp2
  go_ret
  exact ⟨rfl, Q6.out.2.2.2.2.trans ((G9.out.trans (g10.mono G9.out.size)).mono Q6.out.2.2.2.2.size)⟩

set_option maxRecDepth 100000 in
theorem lifted (os : Os) (started : os.Started) (H : Type) (enc : TypeId × Value → H) :
    ReturnsInHanded {} Tryd.checked os 4 .any (fun w args => (Rows.catalogsBackSpec.pre enc Tryd.prog Tryd.f4 Rows.catalogsBackRow.domain false w args ∧ laidMetH Tryd.prog Rows.catalogsBackRow.laid w) ∧ sizedMet enc Tryd.prog Tryd.f4 (OpenSpec.ofChange Rows.catalogsBackSpec) false w args)
      (Rows.catalogsBackSpec.post enc Tryd.prog Tryd.f4 false true false false) := by
  refine returnsInHanded_of_change_and (C := Tryd.checked) (X := fun w _ => laidMetH Tryd.prog Rows.catalogsBackRow.laid w) (fun _ _ _ hh h => h.of_heap hh) own started (by kernel_rfl) Tryd.func4
    (ChangeSpec.witness_shaped (enc := enc) (C := Tryd.checked) (os := os) (X := fun w _ => laidMetH Tryd.prog Rows.catalogsBackRow.laid w) false (World.laidAll Tryd.prog os Rows.catalogsBackRow.laid) #[.slice none 0 0, .int .i64 0, .int .i64 0] 8 (World.laidAll_os _ _ _)
      (World.shaped_of_ZipB (by kernel_rfl) (by kernel_rfl)) (by kernel_rfl) (by kernel_rfl) (by kernel_rfl)
      (by rw [MakeChecks.laidMetH_plain _ _ _ (by kernel_rfl)]; exact laidMet_laidAll _ (by kernel_rfl) (by kernel_rfl))) ?_
  intro W base args ds gs before hval0 hW hcnd _ _hL _
  have hval : ∀ (j : Nat) t v, Tryd.f4.params[j]? = some t → args[j]? = some v → Value.okWide Tryd.prog W .any base t v := hval0
  have hW' := hW
  obtain ⟨p, q, hA0, hV, rfl, hfz, hnd⟩ := hW
  have hA : DataW.TrodAll enc Tryd.prog W 0 (fun _ => true) true Tryd.f4.params.toList args.toList ds p := hA0
  rw [Tryd.params4] at hA hval
  obtain ⟨v0, vs0, d0, ds0, p0, q0, hargs, rfl, rfl, h0, r0⟩ := trodAll_cons hA
  obtain ⟨v1, vs1, d1, ds1, p1, q1, rfl, rfl, rfl, h1, r1⟩ := trodAll_cons r0
  obtain ⟨v2, vs2, d2, ds2, p2, q2, rfl, rfl, rfl, h2, r2⟩ := trodAll_cons r1
  obtain ⟨rfl, rfl, rfl⟩ := trodAll_nil r2
  obtain rfl : args = #[v0, v1, v2] := by cases args; simp_all
  obtain ⟨rfl, rfl⟩ := trodVars_none hV
  have h0k := h0
  obtain ⟨a0, n0, c0, R0, rfl, w0, f0⟩ := open_raws (hval 0 31 v0 rfl rfl) h0
  have l0 : ∀ x ∈ p0, x.block < W.heap.size := fun x hx => hW'.lt x (by simp [hx])
  obtain ⟨a1, rfl, rfl, rfl, w1⟩ := open_int Tryd.underlying3 (hval 1 3 v1 rfl rfl) h1
  obtain ⟨a2, rfl, rfl, rfl, w2⟩ := open_int Tryd.underlying3 (hval 2 3 v2 rfl rfl) h2
  clear hA0 hval0
  refine (walk W a0 n0 c0 R0 a1 a2 w0 w1 w2).mono fun e W' ⟨he, bel⟩ => ?_
  subst he
  exact ⟨_, rfl, _, _, _, [], _, [], hW', trodAll_mk1 (shut_bool Tryd.underlying4 _), (trodAll_cons_mk (Below.trod laidOut (by kernel_rfl) (of_decide_eq_true (by kernel_rfl)) h0k bel l0) (trodAll_cons_mk (shut_int Tryd.underlying3 w1) (trodAll_cons_mk (shut_int Tryd.underlying3 w2) trodAll_mk0))), rfl, bel.frame _, fun h => by cases h⟩

theorem over : Rows.catalogsBackRow.holds Tryd.pinned (OpenSpec.ofChange Rows.catalogsBackSpec) :=
  OpenClaim.holds_of_wide 4 Tryd.f4 rfl rfl rfl rfl rfl rfl rfl ⟨rfl, rfl, rfl, rfl, rfl⟩ rfl rfl rfl rfl rfl (by kernel_rfl) Tryd.func4 (by kernel_rfl)
    (of_decide_eq_true (by kernel_rfl)) (by unfold Func.isWrapper; first | (rw [if_pos (by decide +kernel)]; kernel_rfl) | (rw [if_neg (by decide +kernel)]; exact ⟨rfl, rfl⟩))
    (fun os started H enc _ => lifted os started H enc)
end Go.Proofs.YtelgpiedchnncabDoor.catalogsBack

namespace Go.Proofs.YtelgpiedchnncabDoor
theorem catalogsBack_holds : Rows.CatalogsBackCardSaid :=
  Claim7.holds_tied_plain_at .later [] [.data, .pinned] true (true, "1b300cd1c4582618e6b9e9f913114aa922746806885baca481e97b3e5baea755") false
    catalogsBack.over (fun _ h => by cases h) (by kernel_rfl) (fun _ h => by cases h) catalogsBack_row_tie rfl ⟨rfl, rfl⟩ (by kernel_rfl) rfl
    (fun f fn hf hfn => by
      obtain rfl : f = 4 := Option.some.inj ((show Tryd.prog.funcNamed "arras/arraskeep.CatalogsBack" = some 4 by kernel_rfl).symm.trans hf) |>.symm
      obtain rfl : fn = Tryd.f4 := (Option.some.inj (Tryd.func4.symm.trans hfn)).symm
      exact ⟨by kernel_rfl, fun j t ht => by
        rw [Tryd.params4] at ht
        have hm : t ∈ [31, 3, 3] := by simpa using Array.mem_of_getElem? ht
        have hall : ([31, 3, 3].all fun u => !Tryd.prog.wantsStandIn u) = true := by kernel_rfl
        exact (show Tryd.prog.wantsStandIn t = false by simpa using List.all_eq_true.1 hall t hm)⟩)
    (by kernel_rfl)
#print axioms catalogsBack_holds
end Go.Proofs.YtelgpiedchnncabDoor
