/- For every array (nil, empty, of whatever devices) and every list of files the program's archive.Add answers the very array and the very error of the document's own answer, P10.3's; what was handed in is left as it was. No condition but that the listed tables of Go's library are as its text lays them (the card ties them; no step of the proof looks into them). -/
import Derived.Test.YtkhjmfngeidlcaaGreatDoorRows
import Derived.Test.YtkhjmfngeidlcaaGreatDoorCards
import Derived.Test.YtkhjmfngeidlcaaGreatDoorTie
import Derived.Test.YtkhjmfngeidlcaaGreatDoorArcAdd
import Derived.Test.YtkhjmfngeidlcaaGreatDoorArcRefAdd
import Derived.Test.YtkhjmfngeidlcaaGreatDoorArcR
import Derived.Test.YtkhjmfngeidlcaaGreatDoorFilA
import Derived.Test.YtkhjmfngeidlcaaGreatDoorArrRefCopy
import Derived.Test.YtkhjmfngeidlcaaGreatDoorArrSame
import Derived.Test.YtkhjmfngeidlcaaGreatDoorOpens
import Derived.WalkKit
import Derived.ProofKit
import Derived.OpenShut
import Derived.ShutString
import Derived.SizedLaws
import Derived.Lay
import Derived.SevenTiedAt
import Derived.Stop.Joined
namespace Go.Proofs.YtkhjmfngeidlcaaGreatDoor.archiveAdds
open Go.ChangeShapes Go.WideShapes Go.ChangeAt Go.RowKit
open Go.ChangeMaps (open_string shut_string)

theorem own : ownKnob Tryz.prog.godebug = none := by kernel_rfl
theorem laidOut : laidOutB Tryz.prog = true := by kernel_rfl

theorem abx_set {w V w3 : World} {p : Nat} {r : Ar × Int} {x : Option Addr} {n c : Nat} (hB : Below w.heap.size w V) (hp : w.heap.size ≤ p) (hlt : p < V.heap.size) (hc : V.cell? ⟨p, 0, none⟩ = some (.slice none 0 0))
    (hX : (n = 0 ∧ r.1 = [] ∧ x = none) ∨ ∃ b h, x = some ⟨b, 0, none⟩ ∧ V.heap.size ≤ b ∧ ArrFree w3 b 0 n h r.1) (g : Below V.heap.size V w3) :
    ABx (w3.setCell ⟨p, 0, none⟩ (.slice x n c)) p x n c r.1 ∧ Below w.heap.size w (w3.setCell ⟨p, 0, none⟩ (.slice x n c)) := by
  obtain ⟨⟨a', n', c', he, hX'⟩, hb⟩ := outA_box (w := w) (r := r) (c := c) hB hp hlt hc hX g
  cases he
  exact ⟨⟨World.cell?_setCell_same _ _ _ (cell_at g hc), by have := g.size; simp [World.setCell]; omega, outA_at hX'⟩, hb⟩
theorem kept_new {W w2 : World} (g : Below ((W.alloc (.cells #[.slice none 0 0] 24)).drew).heap.size ((W.alloc (.cells #[.slice none 0 0] 24)).drew) w2) : w2.cell? ⟨W.heap.size, 0, none⟩ = some (.slice none 0 0) ∧ w2.frozen? ⟨W.heap.size, 0, none⟩ = false :=
  ⟨cell_at g (by simp), (g.frozen (p := ⟨W.heap.size, 0, none⟩) (by simp)).trans (by simp)⟩
theorem new_nil (W : World) : (W.alloc (.cells #[.slice none 0 0] 24)).cell? ⟨W.heap.size, 0, none⟩ = some (.slice none 0 0) := by simp
theorem new_lt (W : World) : W.heap.size < (W.alloc (.cells #[.slice none 0 0] 24)).heap.size := by simp
theorem kept_new2 {W w2 : World} (g : Below (W.alloc (.cells #[.slice none 0 0] 24)).heap.size (W.alloc (.cells #[.slice none 0 0] 24)) w2) : w2.cell? ⟨W.heap.size, 0, none⟩ = some (.slice none 0 0) ∧ w2.frozen? ⟨W.heap.size, 0, none⟩ = false :=
  ⟨cell_at g (new_nil W), (g.frozen (p := ⟨W.heap.size, 0, none⟩) (new_lt W)).trans (by simp)⟩
theorem old_new {W : World} {p : Addr} {v : Value} (h : W.cell? p = some v) : (W.alloc (.cells #[.slice none 0 0] 24)).cell? p = some v := cell_at ((Below.refl _ W).alloc (Nat.le_refl _) _) h
theorem app_fil {W1 V w2 : World} {e s n : Nat} {v : Value} {xs : List Value} (h : Below W1.heap.size W1 V) (g : Below V.heap.size V w2) (o : w2.ownsRow V.heap.size e s v n xs) : Below W1.heap.size W1 w2 ∧ w2.ownsRow W1.heap.size e s v n xs := ⟨bel3 h g, World.ownsRow.mono o h.size⟩
theorem abx_new {w w3 : World} {r : Ar × Int} {x : Option Addr} {n c : Nat} (hB : Below w.heap.size w w3) (hx : ArrAt w3 x n r.1) :
    ABx (w3.alloc (.cells #[.slice x n c] 24)) w3.heap.size x n c r.1 ∧ Below w.heap.size w (w3.alloc (.cells #[.slice x n c] 24)) := by
  obtain ⟨W2, hW2, b2, xb⟩ := aboxed c hx
  rw [← hW2]
  exact ⟨xb, bel3 hB b2⟩

set_option maxHeartbeats 1600000 in
set_option maxRecDepth 4000 in
theorem walk (w : World) (a : Option Addr) (n c : Nat) (A : Ar) (b : Option Addr) (k d : Nat) (F : List Fi) (h : ArrAt w a n A ∧ ArrFits n A) (hf : (k ≤ d ∧ FilAt w b k F) ∧ k * 32 ≤ reachBytes) :
    Calls Tryz.prog 3 #[.agg #[.slice a n c], .slice b k d] w fun e w' => e = .returned (.bool true) ∧ Below w.heap.size w w' := by
  obtain ⟨h, fit⟩ := h
  obtain ⟨⟨hkd, hf⟩, hreach⟩ := hf
  have hk32 : k * 32 ≤ 140737488355328 := Nat.le_trans hreach (by decide)
  have hkm : k ≤ maxLen := hf.nb
  obtain ⟨W, hW, hB, bx⟩ := aboxed c h
  have hC := acopy_any a n c A W bx.d fit
  rw [hW] at hC
  have HE := hid hW
  have HC := hid hC
  have HF := hid (fun (wx : World) (g : Below w.heap.size w wx) => hf.below g)
  have HA := hid (fun (x : Option Addr) (n c : Nat) (wx : World) (hx : ArrAt wx x n A) (y : Option Addr) (m e : Nat) (hy : FilAt wx y m F) (hm : m ≤ e) => aadd_any x n c A y m e F wx hx hy hm)
  have HR := hid (fun (x : Option Addr) (n c : Nat) (wx : World) (hx : ArrAt wx x n A) (y : Option Addr) (m e : Nat) (hy : FilAt wx y m F) => refadd_any x n c A y m e F wx hx hy)
  have HV := hid (show (filV F).length = k * 2 by rw [filV_len, hf.sn])
  generalize addA A F = r at HA HR
  have HD := hid (And.intro hB bx)
  clear hC hW hB bx h fit hf hreach hkd
  go_enter Tryz.func3, Tryz.ntmps3
  go_wp2_with fail
  refine HC.out.mono ?_
  rintro _ w1 ⟨ao, c1, rfl, hK, g1⟩
  rw [← HE.out] at g1
  have k1 := outC_at hK
  go_upto_region 2 with fail
  obtain ⟨W1, hW1, b1, kb⟩ := aboxed c1 k1
  rw [← hW1]
  have S1 := hid (And.intro (bel3 (bel3 HD.out.1 g1) b1) (And.intro ((HD.out.2.below g1).below b1) kb))
  clear hW1 hK g1 b1 kb k1 HC
  generalize w1.heap.size = pk at S1 ⊢
  have d0 := S1.out.2.2.b
  have HFR := hid (fun (wx : World) (g : Below W1.heap.size W1 wx) => (HF.out wx (bel3 S1.out.1 g)).rows)
  have HNO := hid (HF.out W1 S1.out.1).rows.1
  have HFO := hid (fun (wx : World) fo fc (h : wx.ownsRow W1.heap.size 54 2 (.slice fo k fc) k (filV F)) => filAt_owns h (HF.out W1 S1.out.1))
  go_cut [6, 7] (fun s6 s7 wx => ∃ px x n1 e1, s6 = .pointer (some ⟨px, 0, none⟩) ∧ s7 = .int .i64 r.2 ∧ Below W1.heap.size W1 wx ∧ ABx wx px x n1 e1 r.1)
  case first =>
    have d9 := old_new d0
    go_region_law (first
      | (refine step_append_row 25 54 _ 2 32 Tryz.underlying25 info_fil rfl (by decide) (by rfl) (.tmp 14) (by rfl) b k d (filV F) (by rfl) HV.out HNO.out (HFR.out _ (by go_grown)).2 (oneCell_fils _) hkm hk32 ?_; intro fo fc w2 hN2 hB2; (have Q2 := app_fil (W1 := W1) (by go_grown) hB2 hN2); (have hA2 := Q2.1); (have HF2 := hid (HFO.out w2 fo fc Q2.2)); clear Q2; (have d2 := cell_at hA2 d0); (have d7 := old_new d2); (try have q2 := kept_new hB2); clear hN2 hB2)
      | (go_simp; go_at_call 5; go_wp2_with (go_at_call 5; refine (HA.out _ _ _ _ (S1.out.2.2.below (by first | exact hA2 | exact hA2.alloc hA2.size _)).d _ _ _ (by first | exact HF2.out.2 | exact HF2.out.2.below ((Below.refl _ _).alloc (Nat.le_refl _) _)) HF2.out.1).mono ?_; rintro _ w3 ⟨⟨x, n1, e1, rfl, hX⟩, g3⟩; (have hA3 : Below W1.heap.size W1 w3 := by first | exact bel3 hA2 g3 | exact bel3 (hA2.alloc hA2.size _) g3); (try have q4 := And.intro (cell_at g3 q2.1) ((g3.frozen (p := ⟨W1.heap.size, 0, none⟩) (cell_lt q2.1)).trans q2.2)); (try have q4 := kept_new2 g3); (try have q5 := q4.1); (try have q6 := q4.2); (have Z3 := hid (abx_new (c := e1) hA3 (outA_at hX))); (try have Z1 := hid (abx_set (r := r) (c := e1) hA2 (Nat.le_refl _) (cell_lt q2.1) q2.1 hX g3)); (try have Z2 := hid (abx_set (r := r) (c := e1) (hA2.alloc hA2.size _) hA2.size (new_lt w2) (new_nil w2) hX g3)); clear hX)))
    all_goals go_wp2_with fail
    all_goals go_meet
    all_goals (first | exact ⟨_, x, n1, e1, rfl, rfl, Z3.out.2, Z3.out.1⟩ | exact ⟨_, x, n1, e1, rfl, rfl, Z1.out.2, Z1.out.1⟩ | exact ⟨_, x, n1, e1, rfl, rfl, Z2.out.2, Z2.out.1⟩)
  case rest =>
    obtain ⟨px, x, n1, e1, rfl, rfl, g2, xb⟩ := hcut
    have S2 := hid (And.intro (bel3 S1.out.1 g2) (And.intro (S1.out.2.1.below g2) (And.intro (S1.out.2.2.below g2) xb)))
    clear g2 xb S1 HA HFR HFO d0
    have d0 := S2.out.2.1.b
    go_wp2_with fail
    refine (HR.out _ _ _ _ S2.out.2.1.d _ _ _ (HF.out _ S2.out.1)).mono ?_
    rintro _ w4 ⟨⟨y, n2, e2, rfl, hY⟩, g2⟩
    have hy := outA_at hY
    obtain rfl : n2 = n1 := by rw [hy.len, S2.out.2.2.2.d.len]
    clear d0
    go_upto_region 4 with fail
    obtain ⟨W3, hW3, b2, yb⟩ := aboxed e2 hy
    rw [← hW3]
    have g3 := bel3 g2 b2
    have S3 := hid (And.intro (bel3 S2.out.1 g3) (And.intro (S2.out.2.1.below g3) (And.intro (S2.out.2.2.1.below g3) (And.intro (S2.out.2.2.2.below g3) yb))))
    clear hW3 g2 b2 yb hY hy g3 S2 HR
    generalize w4.heap.size = py at S3 ⊢
    have d0 := S3.out.2.2.2.1.b
    have d1 := S3.out.2.2.2.2.b
    go_wp2_with fail
    refine (samearr_any _ _ _ _ _ r.1 _ S3.out.2.2.2.1.d S3.out.2.2.2.2.d).mono ?_
    rintro _ w5 ⟨rfl, g4⟩
    clear d0 d1
    have S4 := hid (And.intro (bel3 S3.out.1 g4) (And.intro (S3.out.2.1.below g4) (S3.out.2.2.1.below g4)))
    clear S3 g4
    have d0 := S4.out.2.1.b
    have d1 := S4.out.2.2.b
    go_wp2_with fail
    refine (samearr_any _ _ _ _ _ A _ S4.out.2.2.d S4.out.2.1.d).mono ?_
    rintro _ w6 ⟨rfl, g5⟩
    go_wp2
    go_ret
    exact ⟨rfl, bel3 S4.out.1 g5⟩

set_option maxRecDepth 100000 in
theorem lifted (os : Os) (started : os.Started) (H : Type) (enc : TypeId × Value → H) :
    ReturnsInHanded {} Tryz.checked os 3 .any (fun w args => (Rows.archiveAddsSpec.pre enc Tryz.prog Tryz.f3 Rows.archiveAddsRow.domain false w args ∧ laidMetH Tryz.prog Rows.archiveAddsRow.laid w) ∧ sizedMet enc Tryz.prog Tryz.f3 (OpenSpec.ofChange Rows.archiveAddsSpec) false w args)
      (Rows.archiveAddsSpec.post enc Tryz.prog Tryz.f3 false true false false) := by
  refine returnsInHanded_of_change_and (C := Tryz.checked) (X := fun w _ => laidMetH Tryz.prog Rows.archiveAddsRow.laid w) (fun _ _ _ hh h => h.of_heap hh) own started (by kernel_rfl) Tryz.func3
    (ChangeSpec.witness_shaped (enc := enc) (C := Tryz.checked) (os := os) (X := fun w _ => laidMetH Tryz.prog Rows.archiveAddsRow.laid w) false (World.laidAll Tryz.prog os Rows.archiveAddsRow.laid) #[.agg #[.slice none 0 0], .slice none 0 0] 8 (World.laidAll_os _ _ _)
      (World.shaped_of_ZipB (by kernel_rfl) (by kernel_rfl)) (by kernel_rfl) (by kernel_rfl) (by kernel_rfl)
      (by rw [MakeChecks.laidMetH_plain _ _ _ (by kernel_rfl)]; exact laidMet_laidAll _ (by kernel_rfl) (by kernel_rfl))) ?_
  intro W base args ds gs before hval0 hW hcnd hsz0 _hL _
  have hsz : (DataW.weightsEach Tryz.prog (Tryz.f3.params.toList ++ Rows.archiveAddsSpec.plain.varTypes Tryz.prog) (ds ++ gs)).all (· ≤ reachBytes) = true := hsz0
  have hval : ∀ (j : Nat) t v, Tryz.f3.params[j]? = some t → args[j]? = some v → Value.okWide Tryz.prog W .any base t v := hval0
  have hW' := hW
  obtain ⟨p, q, hA0, hV, rfl, hfz, hnd⟩ := hW
  have hA : DataW.TrodAll enc Tryz.prog W 0 (fun _ => true) true Tryz.f3.params.toList args.toList ds p := hA0
  rw [Tryz.params3] at hA hval hsz
  obtain ⟨v0, vs0, d0, ds0, p0, q0, hargs, rfl, rfl, h0, r0⟩ := trodAll_cons hA
  obtain ⟨v1, vs1, d1, ds1, p1, q1, rfl, rfl, rfl, h1, r1⟩ := trodAll_cons r0
  obtain ⟨rfl, rfl, rfl⟩ := trodAll_nil r1
  obtain rfl : args = #[v0, v1] := by cases args; simp_all
  obtain ⟨rfl, rfl⟩ := trodVars_none hV
  have h0k := h0
  obtain ⟨a0, n0, c0, A0, rfl, w0, f0⟩ := open_arr (hval 0 24 v0 rfl rfl) h0
  have l0 : ∀ x ∈ p0, x.block < W.heap.size := fun x hx => hW'.lt x (by simp [hx])
  have h1k := h1
  obtain ⟨a1, n1, c1, F1, rfl, w1, f1⟩ := open_fils (hval 1 25 v1 rfl rfl) h1
  have l1 : ∀ x ∈ p1, x.block < W.heap.size := fun x hx => hW'.lt x (by simp [hx])
  clear hA0 hval0
  refine (walk W a0 n0 c0 A0 a1 n1 c1 F1 (And.intro w0 (f0 (fun x hx => weights_in hsz (j := 0) (t := 24) rfl rfl hx))) (And.intro w1 (f1 (fun x hx => weights_in hsz (j := 1) (t := 25) rfl rfl hx)))).mono fun e W' ⟨he, bel⟩ => ?_
  subst he
  exact ⟨_, rfl, _, _, _, [], _, [], hW', trodAll_mk1 (shut_bool Tryz.underlying4 _), (trodAll_cons_mk (Below.trod laidOut (by kernel_rfl) (of_decide_eq_true (by kernel_rfl)) h0k bel l0) (trodAll_cons_mk (Below.trod laidOut (by kernel_rfl) (of_decide_eq_true (by kernel_rfl)) h1k bel l1) trodAll_mk0)), rfl, bel.frame _, fun h => by cases h⟩

theorem over : Rows.archiveAddsRow.holds Tryz.pinned (OpenSpec.ofChange Rows.archiveAddsSpec) :=
  OpenClaim.holds_of_wide 3 Tryz.f3 rfl rfl rfl rfl rfl rfl rfl ⟨rfl, rfl, rfl, rfl, rfl⟩ rfl rfl rfl rfl rfl (by kernel_rfl) Tryz.func3 (by kernel_rfl)
    (of_decide_eq_true (by kernel_rfl)) (by unfold Func.isWrapper; first | (rw [if_pos (by decide +kernel)]; kernel_rfl) | (rw [if_neg (by decide +kernel)]; exact ⟨rfl, rfl⟩))
    (fun os started H enc _ => lifted os started H enc)
end Go.Proofs.YtkhjmfngeidlcaaGreatDoor.archiveAdds

namespace Go.Proofs.YtkhjmfngeidlcaaGreatDoor
theorem archiveAdds_holds : Rows.ArchiveAddsCardSaid :=
  Claim7.holds_tied_plain_at .later [] [.data, .pinned] true (true, "799c68e937588680ed98f62b9b26bb30e59ddf9e4fe4854cc2f9cb87152c3a1a") false
    archiveAdds.over (fun _ h => by cases h) (by kernel_rfl) (fun _ h => by cases h) archiveAdds_row_tie rfl ⟨rfl, rfl⟩ (by kernel_rfl) rfl
    (fun f fn hf hfn => by
      obtain rfl : f = 3 := Option.some.inj ((show Tryz.prog.funcNamed "arras/arraslaw.ArchiveAdds" = some 3 by kernel_rfl).symm.trans hf) |>.symm
      obtain rfl : fn = Tryz.f3 := (Option.some.inj (Tryz.func3.symm.trans hfn)).symm
      exact ⟨by kernel_rfl, fun j t ht => by
        rw [Tryz.params3] at ht
        have hm : t ∈ [24, 25] := by simpa using Array.mem_of_getElem? ht
        have hall : ([24, 25].all fun u => !Tryz.prog.wantsStandIn u) = true := by kernel_rfl
        exact (show Tryz.prog.wantsStandIn t = false by simpa using List.all_eq_true.1 hall t hm)⟩)
    (by kernel_rfl)
#print axioms archiveAdds_holds
end Go.Proofs.YtkhjmfngeidlcaaGreatDoor
