/- For every list of raw things and all numbers: after whatever acts the array is one that may be; what is refused is told by its code and changes nothing; an archive of a number of sectors that may not be is refused, and too many acts. What was handed in is left as it was; the table of powers of ten is listed and tied (Itoa looks into it), the other tables are listed, and no step looks into them. -/
import Derived.Test.YtahoagbaadnihaaGreatDoorRows
import Derived.Test.YtahoagbaadnihaaGreatDoorTie
import Derived.Test.YtahoagbaadnihaaGreatDoorCards
import Derived.Test.YtahoagbaadnihaaGreatDoorKeepBase
import Derived.Test.YtahoagbaadnihaaGreatDoorTopM
import Derived.Laws.MakeOwn
import Derived.Lib.SliceRun
import Derived.WalkKit
import Derived.ProofKit
import Derived.OpenShut
import Derived.ShutString
import Derived.LaidOnce
import Derived.SevenTiedAt
import Derived.Lay
import Derived.Stop.Joined
namespace Go.Proofs.YtahoagbaadnihaaGreatDoor.shellsGood
open Go.ChangeShapes Go.WideShapes Go.ChangeAt Go.RowKit Go.Lib
open Go.ChangeMaps (open_string shut_string)

theorem own : ownKnob Tryz.prog.godebug = none := by kernel_rfl
theorem laidOut : laidOutB Tryz.prog = true := by kernel_rfl
theorem pow_of {W : World} (h : laidMetH Tryz.prog Rows.shellsGoodRow.laid W) : Pow W := by
  rw [MakeChecks.laidMetH_plain _ _ _ (by kernel_rfl)] at h
  exact pow_laid h
theorem sects_any (n : Int) (w : World) (hn : i64Ok n) : Calls Tryz.prog 14 #[.int .i64 n] w fun e w' => e = .returned (.int .i64 (24 + 2 * pick n 20)) ∧ w' = w := by
  have pb := pick_bd n 20 (by omega)
  go_enter Tryz.func14, Tryz.ntmps14
  go_wp2_with (go_at_call 17; refine (picked_gen _ _ _ (by assumption) (by decide)).mono ?_; rintro _ w9 ⟨rfl, h9⟩; (have h8 := h9.symm); subst h8)
  go_ret
  first | exact ⟨rfl, rfl⟩ | exact ⟨ret_int (by omega), rfl⟩
def nilX : Ax := ⟨⟨0, [], ⟨#[]⟩, 0, 0, 0, 0⟩, nilS⟩
theorem made_ax (n : Nat) : (madeCells (Value.agg #[.int .i64 0, .slice none 0 0, .string ⟨#[]⟩, .int .i64 0, .int .i64 0, .int .i64 0, .int .i64 0]).cells (n * 7)).toList = axV (List.replicate n nilX) := by
  apply List.ext_getElem?
  intro j
  by_cases h : j < n * 7
  · have a := elt_at axC 7 axC_len (List.replicate n nilX) (j / 7) (j % 7) nilX (by rw [List.getElem?_replicate, if_pos (by omega)]) (Nat.mod_lt _ (by decide))
    rw [show j / 7 * 7 + j % 7 = j by omega] at a
    have e : (madeCells (Value.agg #[.int .i64 0, .slice none 0 0, .string ⟨#[]⟩, .int .i64 0, .int .i64 0, .int .i64 0, .int .i64 0]).cells (n * 7)).toList[j]? = some ((#[Value.int .i64 0, .slice none 0 0, .string ⟨#[]⟩, .int .i64 0, .int .i64 0, .int .i64 0, .int .i64 0])[j % 7]!) := by
      simp [madeCells, Value.cells, h]
    rw [e, axV, a]
    have q : j % 7 = 0 ∨ j % 7 = 1 ∨ j % 7 = 2 ∨ j % 7 = 3 ∨ j % 7 = 4 ∨ j % 7 = 5 ∨ j % 7 = 6 := by omega
    rcases q with q | q | q | q | q | q | q <;> rw [q] <;> rfl
  · rw [List.getElem?_eq_none (by simp [madeCells]; omega), List.getElem?_eq_none (by rw [axV_len]; simp; omega)]
theorem make_any (n : Nat) (hn : n ≤ 1000) (w : World) : (Instr.makeSlice 22 (.int .i64 (n : Int)) (.int .i64 (n : Int))).run Tryz.prog w = .ok (.slice (some ⟨w.heap.size, 0, none⟩) n n) (w.alloc (.cells (axV (List.replicate n nilX)).toArray 47)) := by
  obtain ⟨i0, hi, hz0, hz1, hz2⟩ := info_parts info_acts
  have h := run_make (P := Tryz.prog) w 22 47 i0 _ Tryz.underlying22 hi hz0 .i64 .i64 (n : Int) (n : Int) (by omega) (by omega) (by rw [hz2]; omega) (by omega)
  rw [hz1] at h
  simp only [Int.toNat_natCast] at h
  rw [show (axV (List.replicate n nilX)).toArray = madeCells (Value.agg #[.int .i64 0, .slice none 0 0, .string ⟨#[]⟩, .int .i64 0, .int .i64 0, .int .i64 0, .int .i64 0]).cells (n * 7) by rw [← made_ax n]]
  exact h
set_option maxHeartbeats 1600000 in
set_option maxRecDepth 4000 in
theorem clone_any (w : World) (base : Nat) (a : Option Addr) (n c : Nat) (L : List Ax) (H : ActI w base (.slice a n c) L) (hL : L.length ≤ 1000) :
    Calls Tryz.prog 18 #[.slice a n c] w (OutX w (acs L)) := by
  have q22 : ∀ (w : World) (a : Option Addr) (n c n' c' : Nat), (binOp .eql 22 (.slice a n c) (.slice none n' c')).run Tryz.prog w = .ok (.bool a.isNone) w := fun w a n c n' c' => Lib.run_eql_slice_nil w _ _ a n c n' c' Tryz.underlying22
  obtain ⟨hnc, hA⟩ := H.at (by unfold maxLen; omega)
  rcases H.own.2 with ⟨e, hn⟩ | ⟨g, cap, cur, e, _⟩
  · cases e
    have hl : L = [] := List.eq_nil_of_length_eq_zero hn
    subst hl
    have FIN : Hid (OutX w (acs []) (.returned (.slice none 0 0)) w) := ⟨none, 0, 0, [], rfl, actI_nil _ _, rfl, Below.refl _ _⟩
    clear H hnc hA hn hL
    go_enter Tryz.func18, Tryz.ntmps18
    go_wp2
    go_ret
    exact FIN.out
  · cases e
    obtain ⟨W, hW⟩ : ∃ W, W = w.alloc (.cells #[] 47) := ⟨_, rfl⟩
    have hB : Below w.heap.size w W := by rw [hW]; exact (Below.refl _ w).alloc (Nat.le_refl _) _
    have hI : ActI W w.heap.size (.slice (some ⟨w.heap.size, 0, none⟩) 0 0) [] := by
      rw [hW]
      exact ⟨⟨by simp [axV], .inr ⟨w.heap.size, 0, #[], rfl, Nat.le_refl _, heap_alloc_new w _, Nat.zero_le _, by unfold maxLen; omega, rfl, by simp [axV]⟩⟩, fun _ h => by cases h⟩
    have S := hid (And.intro hB (And.intro hI (And.intro (hA.below hB) (And.intro (actAt_src (hA.below hB)) (show ∀ q ∈ L, AxOk W q ∧ Off (Value.slice (some ⟨w.heap.size, 0, none⟩) 0 0).ownBlock q.f.a q.f.n from fun q hq => ⟨(hA.ok q hq).below hB, (hA.ok q hq).1.2.off (Nat.le_refl _)⟩)))))
    clear H hnc hA hB hI
    go_enter Tryz.func18, Tryz.ntmps18
    go_wp2_with (at_builtin; (refine wpList_appendX _ rfl (.tmp 5) (.tmp 6) rfl w.heap.size (.slice (some ⟨w.heap.size, 0, none⟩) 0 0) [] L rfl (by rw [← hW]; exact S.out.2.1) (some ⟨g, 0, none⟩) L.length c rfl rfl (by rw [← hW]; exact S.out.2.2.2.1) (by rw [← hW]; exact S.out.2.2.2.2) (by simp; omega) (by rw [← hW]; exact S.out.1.size) ?_; intro a3 n3 c3 w3 hn3 hI3 hg3; rw [← hW] at hg3; (have FIN := hid (show OutX w (acs L) (.returned (.slice a3 n3 c3)) w3 from ⟨a3, n3, c3, [] ++ L, rfl, hI3, by rw [List.nil_append], S.out.1.grown hg3 S.out.1.size (fun b e => (World.ownsRow.lt S.out.2.1.own b e).1)⟩)); clear hI3 hg3))
    go_ret
    exact FIN.out
/-- What an answer at a place tells. -/
theorem code_at {w : World} {n : Nat} {Y : List Nx} {R : List An} {k : Nat} {b o : Nat} (h : AnsAt w (some ⟨b, o, none⟩) n Y) (he : ans Y = R) (x : An) (hx : R[k]? = some x) : w.cell? ⟨b, o + k * 5, none⟩ = some (.int .i64 x.code) ∧ k < n := by
  have hk : k < n := by
    rw [h.sn, ← show (ans Y).length = Y.length from List.length_map _, he]
    exact (List.getElem?_eq_some_iff.1 hx).1
  obtain ⟨q, b2, o2, hq, e, _, _, x0, _⟩ := h.one k hk
  cases e
  have : q.r = x := by
    rw [← he, ans, List.getElem?_map, hq] at hx
    exact Option.some.inj hx
  rw [← this]
  exact ⟨x0, hk⟩
set_option maxHeartbeats 6400000 in
set_option maxRecDepth 8000 in
theorem walk (w : World) (hp : Pow w) (a : Option Addr) (n c : Nat) (R : List Raw4) (d0 mn kd : Int) (h : RawsAt w a n R ∧ n ≤ c) (w1 : (Lit.int .i64 d0).wf = true) (w2 : (Lit.int .i64 mn).wf = true) (w3 : (Lit.int .i64 kd).wf = true) :
    Calls Tryz.prog 4 #[.slice a n c, .int .i64 d0, .int .i64 mn, .int .i64 kd] w fun e w' => e = .returned (.bool true) ∧ Below w.heap.size w w' := by
  have q1 := wf_i64 w1
  have q2 := wf_i64 w2
  have q3 := wf_i64 w3
  obtain ⟨K, hK, hK3⟩ := nat_pick d0
  obtain ⟨P, hP, hP20⟩ : ∃ P : Nat, pick mn 20 = (P : Int) ∧ P < 20 := by
    have := pick_bd mn 20 (by omega)
    exact ⟨(pick mn 20).toNat, by omega, by omega⟩
  obtain ⟨Z, hZ, hZ9⟩ : ∃ Z : Nat, pick kd 9 = (Z : Int) ∧ Z < 9 := by
    have := pick_bd kd 9 (by omega)
    exact ⟨(pick kd 9).toNat, by omega, by omega⟩
  obtain ⟨N, hN⟩ : ∃ N, N = 24 + 2 * P := ⟨_, rfl⟩
  obtain ⟨z, hz⟩ : ∃ z, z = 9 + Z := ⟨_, rfl⟩
  have CS : Hid (∀ wx, Calls Tryz.prog 14 #[.int .i64 mn] wx fun e w' => e = .returned (.int .i64 N) ∧ w' = wx) := fun wx => by
    have := sects_any mn wx q2
    rw [hP, show (24 : Int) + 2 * (P : Int) = (N : Int) by omega] at this
    exact this
  have CP : Hid (∀ wx, Calls Tryz.prog 17 #[.int .i64 d0, .int .i64 3] wx fun e w' => e = .returned (.int .i64 K) ∧ w' = wx) := fun wx => by
    have := picked_gen d0 3 wx q1 (by omega)
    rw [hK] at this
    exact this
  have CQ : Hid (∀ wx, Calls Tryz.prog 17 #[.int .i64 kd, .int .i64 9] wx fun e w' => e = .returned (.int .i64 Z) ∧ w' = wx) := fun wx => by
    have := picked_gen kd 9 wx q3 (by omega)
    rw [hZ] at this
    exact this
  have hzz : (9 : Int) + (Z : Int) = (z : Int) := by omega
  have C1 := hid (adds_any a n c R 8 w h.1 h.2 hp (by omega) (by omega) (by omega))
  have HH := hid (And.intro h.1 (And.intro hK3 (And.intro (show 16 ≤ N by omega) (And.intro (show N ≤ 64 by omega) (And.intro (show N % 2 = 0 by omega) (show 9 ≤ (z : Int) by omega))))))
  have hN64 : N ≤ 64 := by omega
  have hz64 : z ≤ 64 := by omega
  clear h hp q1 q2 q3 w1 w2 w3 hK hK3 hP hP20 hZ hZ9 hN hz
  go_enter Tryz.func4, Tryz.ntmps4
  go_wp2_with fail
  refine (CS.out _).mono ?_
  rintro _ w9 ⟨rfl, h9⟩
  have h8 := h9.symm
  subst h8
  clear h9 CS
  go_wp2_with fail
  refine C1.out.mono ?_
  rintro _ v1 ⟨ga, gm, gc, fb, fk, fd, Gs, A, rfl, ⟨hA1, hA2⟩, ⟨hF1, hF2⟩, ⟨hch, htot, _⟩, g1⟩
  have hcl := chain_len Gs 0 hch
  have CH := hid (hurts_out a n c R K N 30 v1 (HH.out.1.below g1) HH.out.2.1 HH.out.2.2.1 HH.out.2.2.2.1 (by omega))
  have hhl : ((hurtsOf R K N 30).map hurtAc).length ≤ 30 := by rw [List.length_map]; exact hurts_le R K N 30
  have hgl : (Gs.map addAc).length ≤ 8 := by rw [List.length_map]; omega
  obtain ⟨l, hl⟩ : ∃ l, l = Gs.map addAc ++ (hurtsOf R K N 30).map hurtAc := ⟨_, rfl⟩
  have hll : l.length ≤ 38 := by rw [hl, List.length_append]; omega
  have GOOD := hid (shell_told Gs hch htot K HH.out.2.1 R 30 N HH.out.2.2.1 HH.out.2.2.2.1 HH.out.2.2.2.2.1 (z : Int) HH.out.2.2.2.2.2 l hl (by omega))
  have hzf : ∀ x ∈ (hurtsOf R K N 30).map hurtAc, x.files = [] := fun x hx => by obtain ⟨y, _, rfl⟩ := List.mem_map.1 hx; rfl
  have S1 := hid (And.intro g1 (And.intro hA1 (And.intro hA2 (And.intro hl (And.intro hll (And.intro hgl (And.intro hhl hzf)))))))
  clear C1 hA1 hA2 hF1 hF2 hch htot g1 hcl hhl hgl hl hll hzf
  go_wp2_with fail
  refine (CP.out _).mono ?_
  rintro _ w9 ⟨rfl, h9⟩
  have h8 := h9.symm
  subst h8
  clear h9 CP
  go_wp2_with fail
  refine CH.out.mono ?_
  rintro _ v2 ⟨ha, hn, hc, H, rfl, hH1, hH2, g2⟩
  have S2 := hid (both_two rfl S1.out.2.1 S1.out.2.2.1 hH1 hH2 (by have := S1.out.2.2.2.2.2.1; omega) S1.out.2.2.2.2.2.2.1 S1.out.2.2.2.2.2.2.2 S1.out.1 g2)
  clear CH hH1 hH2 g2
  go_wp2_with (at_builtin; (refine wpList_appendX _ rfl (.tmp 34) (.tmp 39) rfl w.heap.size (.slice ga gm gc) A H rfl S2.out.1 ha hn hc rfl S2.out.2.1 S2.out.2.2.1 S2.out.2.2.2.1 S2.out.2.2.2.2.1 S2.out.2.2.2.2.2.1 ?_; intro a3 n3 c3 v3 hn3 hI3 hg3; (have X3 := S2.out.2.2.2.2.2.2 a3 n3 c3 v3 hI3 hg3); clear hI3 hg3))
  rw [← S1.out.2.2.2.1] at X3
  obtain ⟨_, _, _, C, e3, hC1, hC2, g3⟩ := X3
  cases e3
  have hCl : C.length ≤ 38 := by rw [← acs_len, hC2]; exact S1.out.2.2.2.2.1
  have hCt := hC1.at (by unfold maxLen; omega)
  obtain ⟨R', Aa, r1, r2, r3, r4⟩ := GOOD.out
  have C4 := hid (srun_any N a3 n3 c3 C v3 hCt.2)
  rw [hC2, r1] at C4
  have hn3l : n3 = l.length := by rw [hCt.2.sn, ← hC2, acs_len]
  have S3 := hid (And.intro g3 (And.intro hC1 (And.intro hC2 (And.intro hCl (And.intro hn3l (And.intro r2 (And.intro r3 r4)))))))
  clear hC1 hC2 hCl hCt g3 GOOD r1 r2 r3 r4 hn3l S2 hn3
  go_wp2_with fail
  refine C4.out.mono ?_
  rintro _ v4 ⟨xa, xn, xc, za, zm, zc, X, rfl, ⟨hX1, hX2⟩, hXA, g4⟩
  have hXl : X.length = l.length := by rw [← S3.out.2.2.2.2.2.2.2, ← show ans X = R' from hX1, ans, List.length_map]
  have hxn : xn = n3 := by rw [(hX2.at (by unfold maxLen; have := S1.out.2.2.2.2.1; omega)).2.sn, hXl, S3.out.2.2.2.2.1]
  subst hxn
  obtain ⟨u4, hu4⟩ : ∃ u4, u4 = v4.alloc (.cells #[.slice za zm zc] 26) := ⟨_, rfl⟩
  have gu4 : Below v4.heap.size v4 u4 := by rw [hu4]; exact (Below.refl _ v4).alloc (Nat.le_refl _) _
  have b4 : Own u4 v4.heap.size 26 [.slice za zm zc] := by rw [hu4]; exact Own.made v4 26 [.slice za zm zc]
  have CC := hid (clone_any u4 w.heap.size a3 xn c3 C ((S3.out.2.1.below g4).below gu4) (by have := S3.out.2.2.2.1; omega))
  rw [S3.out.2.2.1] at CC
  have S4 := hid (And.intro (bel3 g4 gu4) (And.intro b4 (hXA.below gu4)))
  clear C4 hX1 hX2 hXA g4 gu4 b4 hXl
  go_wp2_with fail
  rw [← hu4]
  clear hu4
  refine CC.out.mono ?_
  rintro _ v5 ⟨ca, cn, cc, D, rfl, hD1, hD2, g5⟩
  have hDl : D.length ≤ 38 := by rw [← acs_len, hD2]; exact S1.out.2.2.2.2.1
  obtain ⟨u5, hu5⟩ : ∃ u5, u5 = v5.alloc (.cells #[.int .i64 z, .slice none 0 0, .string ⟨#[]⟩, .int .i64 0, .int .i64 0, .int .i64 0, .int .i64 0, .int .i64 4, .slice none 0 0, .string ⟨#[]⟩, .int .i64 3, .int .i64 0, .int .i64 0, .int .i64 0, .int .i64 5, .slice none 0 0, .string ⟨#[]⟩, .int .i64 0, .int .i64 N, .int .i64 0, .int .i64 0, .int .i64 7, .slice none 0 0, .string ⟨#[]⟩, .int .i64 0, .int .i64 (-1), .int .i64 0, .int .i64 0, .int .i64 6, .slice none 0 0, .string ⟨#[]⟩, .int .i64 (-1), .int .i64 0, .int .i64 0, .int .i64 0] 47) := ⟨_, rfl⟩
  have gu5 : Below v5.heap.size v5 u5 := by rw [hu5]; exact (Below.refl _ v5).alloc (Nat.le_refl _) _
  have hfive : ∀ q ∈ five N z, q.files = [] ∧ q.name.size ≤ maxLen := fun q hq => by
    simp only [five, List.mem_cons, List.not_mem_nil, or_false] at hq
    rcases hq with rfl | rfl | rfl | rfl | rfl <;> exact ⟨rfl, Nat.zero_le _⟩
  have h5 : PartOk u5 ⟨⟨some ⟨v5.heap.size, 0, none⟩, 5, 5⟩, (five N z).map fun x => ⟨x, nilS⟩⟩ := by rw [hu5]; exact acts_laid v5 (five N z) hfive (by show 5 ≤ 1000; omega)
  have S5 := hid (And.intro (bel3 g5 gu5) (And.intro (hD1.below gu5) (And.intro hD2 (And.intro (actAt_src h5.2) (And.intro (show ∀ q ∈ (five N z).map (fun x => (⟨x, nilS⟩ : Ax)), AxOk u5 q ∧ Off (Value.slice ca cn cc).ownBlock q.f.a q.f.n from fun q hq => ⟨h5.2.ok q hq, by obtain ⟨y, _, rfl⟩ := List.mem_map.1 hq; exact nilS_off _⟩) hDl)))))
  clear CC hD1 hD2 g5 gu5 hfive h5 hDl
  go_wp2_with fail
  refine (CQ.out _).mono ?_
  rintro _ w9 ⟨rfl, h9⟩
  have h8 := h9.symm
  subst h8
  clear h9 CQ
  go_wp2_with (at_builtin; (refine wpList_appendX _ rfl (.tmp 51) (.tmp 61) rfl u4.heap.size (.slice ca cn cc) D ((five N z).map fun x => ⟨x, nilS⟩) rfl (by rw [← hu5]; exact S5.out.2.1) (some ⟨v5.heap.size, 0, none⟩) 5 5 rfl rfl (by rw [← hu5]; exact S5.out.2.2.2.1) (by rw [← hu5]; exact S5.out.2.2.2.2.1) (by have := S5.out.2.2.2.2.2; simp only [List.length_map]; show D.length + 5 ≤ 100000; omega) (by rw [← hu5]; exact S5.out.1.size) ?_; intro a6 n6 c6 v6 hn6 hI6 hg6; rw [← hu5] at hg6))
  clear hu5
  have g6 := S5.out.1.grown hg6 S5.out.1.size (fun b e => (World.ownsRow.lt S5.out.2.1.own b e).1)
  have h6t := hI6.at (by unfold maxLen; have := S5.out.2.2.2.2.2; simp only [List.length_append, List.length_map]; rw [show (five N (z : Int)).length = 5 from rfl]; omega)
  have C6 := hid (srun_any N a6 n6 c6 _ v6 h6t.2)
  rw [acs_app, S5.out.2.2.1, acs_nil, S3.out.2.2.2.2.2.1] at C6
  have S6 := hid g6
  clear hI6 hg6 g6 h6t hn6 S5
  go_wp2_with fail
  refine C6.out.mono ?_
  rintro _ v7 ⟨ya, yn, yc, ua, um, uc, Y, rfl, ⟨hY1, hY2⟩, hYA, g7⟩
  have hYl : Y.length = l.length + 5 := by
    have e := congrArg List.length hY1
    rw [ans, List.length_map, List.length_append, S3.out.2.2.2.2.2.2.2] at e
    exact e
  obtain ⟨u7, hu7⟩ : ∃ u7, u7 = v7.alloc (.cells #[.slice ua um uc] 26) := ⟨_, rfl⟩
  have gu7 : Below v7.heap.size v7 u7 := by rw [hu7]; exact (Below.refl _ v7).alloc (Nat.le_refl _) _
  have b7 : Own u7 v7.heap.size 26 [.slice ua um uc] := by rw [hu7]; exact Own.made v7 26 [.slice ua um uc]
  have hYt := (hY2.at (by unfold maxLen; have := S1.out.2.2.2.2.1; omega)).2
  have C7 := hid (srun_any 15 none 0 0 [] u7 (actAt_none u7 none))
  rw [show acs [] = [] from rfl, scr15] at C7
  have S7 := hid (And.intro (bel3 g7 gu7) (And.intro b7 (And.intro (hYA.below gu7) (And.intro (hYt.below gu7) (And.intro hY1 hYl)))))
  clear C6 hY1 hY2 hYA g7 gu7 b7 hYl hYt
  go_wp2_with fail
  rw [← hu7]
  clear hu7
  refine C7.out.mono ?_
  rintro _ v8 ⟨pa, pn, pc, qa, qm, qc, P8, rfl, _, _, g8⟩
  obtain ⟨u8, hu8⟩ : ∃ u8, u8 = v8.alloc (.cells #[.slice qa qm qc] 26) := ⟨_, rfl⟩
  have gu8 : Below v8.heap.size v8 u8 := by rw [hu8]; exact (Below.refl _ v8).alloc (Nat.le_refl _) _
  obtain ⟨u9, hu9⟩ : ∃ u9, u9 = u8.alloc (.cells (axV (List.replicate 201 nilX)).toArray 47) := ⟨_, rfl⟩
  have gu9 : Below u8.heap.size u8 u9 := by rw [hu9]; exact (Below.refl _ u8).alloc (Nat.le_refl _) _
  have hz9 : ActAt u9 (some ⟨u8.heap.size, 0, none⟩) 201 (List.replicate 201 nilX) := ⟨List.length_replicate.symm, by unfold maxLen; omega, by rw [hu9]; exact (Own.made u8 47 _).row, fun q hq => by rw [List.eq_of_mem_replicate hq]; exact axOk_nil rfl (Nat.zero_le _)⟩
  have C9 := hid (srun_any N (some ⟨u8.heap.size, 0, none⟩) 201 201 (List.replicate 201 nilX) u9 hz9)
  rw [scr201 N HH.out.2.2.1 HH.out.2.2.2.1 HH.out.2.2.2.2.1 _ (by rw [acs_len, List.length_replicate])] at C9
  have S8 := hid (bel3 g8 (bel3 gu8 gu9))
  have mk : (Instr.makeSlice 22 (.int .i64 201) (.int .i64 201)).run Tryz.prog u8 = .ok (.slice (some ⟨u8.heap.size, 0, none⟩) 201 201) u9 := by rw [hu9]; have := make_any 201 (by omega) u8; exact this
  clear C7 g8 gu8 gu9 hz9 hu9
  go_upto_region 7 with fail
  rw [← hu8]
  clear hu8
  go_wp2_with fail
  clear mk
  refine C9.out.mono ?_
  rintro _ v10 ⟨sa, sn, sc, ta, tm, tc, P9, rfl, _, _, g10⟩
  obtain ⟨W, hW⟩ : ∃ W, W = v10.alloc (.cells #[.slice ta tm tc] 26) := ⟨_, rfl⟩
  have gW : Below v10.heap.size v10 W := by rw [hW]; exact (Below.refl _ v10).alloc (Nat.le_refl _) _
  have g7W := bel3 S8.out (bel3 g10 gW)
  have g4W := bel3 S6.out (bel3 S7.out.1 g7W)
  have hzm : zm = 3 := S4.out.2.2.len.trans ((arMay_iff Aa).1 S3.out.2.2.2.2.2.2.1).1
  have hum : um = 3 := S7.out.2.2.1.len.trans ((arMay_iff Aa).1 S3.out.2.2.2.2.2.2.1).1
  subst hzm
  subst hum
  have CA := hid (acheck_any za 3 zc Aa W (S4.out.2.2.below g4W))
  rw [show arChk Aa = 0 by rw [arChk, if_pos S3.out.2.2.2.2.2.2.1]] at CA
  have q1 : W.cell? ⟨v4.heap.size, 0, none⟩ = some (.slice za 3 zc) := (S4.out.2.1.below' g4W).cell (i := 0) rfl
  have q2 : W.cell? ⟨v7.heap.size, 0, none⟩ = some (.slice ua 3 uc) := (S7.out.2.1.below' g7W).cell (i := 0) rfl
  have hyn : yn = xn + 5 := by rw [S7.out.2.2.2.1.sn, S7.out.2.2.2.2.2, S3.out.2.2.2.2.1]
  have hxs : xn ≤ 38 := by have h1 := S1.out.2.2.2.2.1; have h2 := S3.out.2.2.2.2.1; omega
  have FIN := hid (bel3 S3.out.1 (bel3 S4.out.1 g4W))
  have HA := hid (And.intro (S4.out.2.2.below g4W) (S7.out.2.2.1.below g7W))
  have HY := hid (And.intro (S7.out.2.2.2.1.below g7W) (And.intro S7.out.2.2.2.2.1 (show xn = R'.length by rw [S3.out.2.2.2.2.2.2.2]; exact S3.out.2.2.2.2.1)))
  have hne : ((xn : Int) != xn) = false := bne_self_eq_false _
  clear C9 g10 gW g7W g4W
  go_upto_region 8 with fail
  rw [← hW]
  clear hW
  go_wp2_with fail
  refine CA.out.mono ?_
  rintro _ w5 ⟨rfl, g5⟩
  have p1 := (g5.cell (cell_flat q1).2).trans q1
  have p2 := (g5.cell (cell_flat q2).2).trans q2
  have FIN2 := hid (bel3 FIN.out g5)
  have HA2 := hid (And.intro (HA.out.1.below g5) (HA.out.2.below g5))
  obtain ⟨_, yb, yo, _, rfl, _⟩ := HY.out.1.one xn (by omega)
  have HY2 := hid (And.intro (HY.out.1.below g5) HY.out.2)
  clear CA q1 q2 FIN HA HY g5 hne
  go_wp2_with fail
  go_loopw [108] (fun i wr => ∃ k : Nat, k ≤ 3 ∧ i = .int .i64 k ∧ Hid (Below w5.heap.size w5 wr)) (fun i _ => 3 - (RowKit.intOf i).toNat)
  case atStart => exact ⟨0, by omega, rfl, Below.refl _ _⟩
  case round =>
    obtain ⟨k, hk, rfl, G⟩ := hrel
    replace p1 := (G.out.cell (cell_flat p1).2).trans p1
    replace p2 := (G.out.cell (cell_flat p2).2).trans p2
    by_cases hlt : k < 3
    · have hlt' : (k : Int) < 3 := by omega
      rcases HA2.out.1.below G.out with ⟨e0, _⟩ | ⟨b1, o1, h1, rfl, X1⟩
      · omega
      rcases HA2.out.2.below G.out with ⟨e0, _⟩ | ⟨b2, o2, h2, rfl, X2⟩
      · omega
      have x0 := X1.c0 k hlt
      have x1 := X1.c1 k hlt
      have d1 := X1.dv k hlt
      have y0 := X2.c0 k hlt
      have y1 := X2.c1 k hlt
      have d2 := X2.dv k hlt
      generalize h1 k = t1 at x0 x1 d1
      obtain ⟨ea, en, ec, fa, fn, fc⟩ := t1
      generalize h2 k = t2 at y0 y1 d2
      obtain ⟨ia, im, ic, ja, jn, jc⟩ := t2
      dsimp only at x0 x1 d1 y0 y1 d2
      have e1 : im = en := by rw [d2.sn, d1.sn]
      have e2 : jn = fn := by rw [d2.sm, d1.sm]
      subst e1
      subst e2
      have CT := hid (fun q => eqT_q ea im ec ia ic (dev Aa k).1 (wr.drewN q) (d1.S.below (below_drewN (Below.refl _ _) q)) (d2.S.below (below_drewN (Below.refl _ _) q)) d1.sn d1.nb)
      have CB := hid (fun q => eqB_q fa jn fc ja jc (dev Aa k).2 (wr.drewN q) (d1.L.below (below_drewN (Below.refl _ _) q)) (d2.L.below (below_drewN (Below.refl _ _) q)) d1.sm d1.mb)
      clear d1 d2 X1 X2 FIN2 HA2 HY2
      go_wp2_with fail
      go_quiet ((first | (go_at_call 20; exact Calls.quiet_of (CT.out _)) | (go_at_call 21; exact Calls.quiet_of (CB.out _))))
      have GR := hid (bel3 G.out (below_drewN (Below.refl wr.heap.size wr) nq))
      generalize wr.drewN nq = wq at GR ⊢
      clear CT CB G x0 x1 y0 y1 p1 p2
      go_wp2
      go_roundw
      case rel => exact ⟨k + 1, by omega, by go_num, GR⟩
      case measure => simp [RowKit.intOf]; omega
    · have hlt' : ¬ (k : Int) < 3 := by omega
      obtain ⟨i1, hi1⟩ : ∃ i, i = xn + 1 := ⟨_, rfl⟩
      obtain ⟨i2, hi2⟩ : ∃ i, i = xn + 2 := ⟨_, rfl⟩
      obtain ⟨i3, hi3⟩ : ∃ i, i = xn + 3 := ⟨_, rfl⟩
      obtain ⟨i4, hi4⟩ : ∃ i, i = xn + 4 := ⟨_, rfl⟩
      have idx : ∀ (i : Nat) (x : An), ([anE 3, anE 2, anE 6, anE 2, anE 2] : List An)[i]? = some x → (R' ++ [anE 3, anE 2, anE 6, anE 2, anE 2])[xn + i]? = some x := fun i x hx => by
        have := HY2.out.2.2
        rw [List.getElem?_append_right (by omega), show xn + i - R'.length = i by omega]
        exact hx
      have hY := HY2.out.1.below G.out
      have z0 : wr.cell? ⟨yb, yo + xn * 5, none⟩ = some (.int .i64 3) := (code_at hY HY2.out.2.1 (anE 3) (idx 0 _ rfl)).1
      have z1 : wr.cell? ⟨yb, yo + i1 * 5, none⟩ = some (.int .i64 2) := by rw [hi1]; exact (code_at hY HY2.out.2.1 (anE 2) (idx 1 _ rfl)).1
      have z2 : wr.cell? ⟨yb, yo + i2 * 5, none⟩ = some (.int .i64 6) := by rw [hi2]; exact (code_at hY HY2.out.2.1 (anE 6) (idx 2 _ rfl)).1
      have z3 : wr.cell? ⟨yb, yo + i3 * 5, none⟩ = some (.int .i64 2) := by rw [hi3]; exact (code_at hY HY2.out.2.1 (anE 2) (idx 3 _ rfl)).1
      have z4 : wr.cell? ⟨yb, yo + i4 * 5, none⟩ = some (.int .i64 2) := by rw [hi4]; exact (code_at hY HY2.out.2.1 (anE 2) (idx 4 _ rfl)).1
      have k1 : (xn : Int) + 1 = (i1 : Int) := by omega
      have k2 : (xn : Int) + 2 = (i2 : Int) := by omega
      have k3 : (xn : Int) + 3 = (i3 : Int) := by omega
      have k4 : (xn : Int) + 4 = (i4 : Int) := by omega
      have m0 : (xn : Int) < yn := by omega
      have m1 : (i1 : Int) < yn := by omega
      have m2 : (i2 : Int) < yn := by omega
      have m3 : (i3 : Int) < yn := by omega
      have m4 : (i4 : Int) < yn := by omega
      have n1 : i1 ≤ 50 := by omega
      have n2 : i2 ≤ 50 := by omega
      have n3 : i3 ≤ 50 := by omega
      have n4 : i4 ≤ 50 := by omega
      have F := hid (bel3 FIN2.out G.out)
      clear hY idx HY2 HA2 FIN2 G p1 p2 hi1 hi2 hi3 hi4 hyn
      go_wp2
      go_ret
      exact ⟨rfl, F.out⟩

set_option maxRecDepth 100000 in
theorem lifted (os : Os) (started : os.Started) (H : Type) (enc : TypeId × Value → H) :
    ReturnsInHanded {} Tryz.checked os 4 .any (fun w args => (Rows.shellsGoodSpec.pre enc Tryz.prog Tryz.f4 Rows.shellsGoodRow.domain false w args ∧ laidMetH Tryz.prog Rows.shellsGoodRow.laid w) ∧ sizedMet enc Tryz.prog Tryz.f4 (OpenSpec.ofChange Rows.shellsGoodSpec) false w args)
      (Rows.shellsGoodSpec.post enc Tryz.prog Tryz.f4 false true false false) := by
  refine returnsInHanded_of_change_and (C := Tryz.checked) (X := fun w _ => laidMetH Tryz.prog Rows.shellsGoodRow.laid w) (fun _ _ _ hh h => h.of_heap hh) own started (by kernel_rfl) Tryz.func4
    (ChangeSpec.witness_shaped (enc := enc) (C := Tryz.checked) (os := os) (X := fun w _ => laidMetH Tryz.prog Rows.shellsGoodRow.laid w) false (World.laidAll Tryz.prog os Rows.shellsGoodRow.laid) #[.slice none 0 0, .int .i64 0, .int .i64 0, .int .i64 0] 8 (World.laidAll_os _ _ _)
      (World.shaped_of_ZipB (by kernel_rfl) (by kernel_rfl)) (by kernel_rfl) (by kernel_rfl) (by kernel_rfl)
      (by rw [MakeChecks.laidMetH_plain _ _ _ (by kernel_rfl)]; exact laidMet_laidAll _ (by kernel_rfl) (by kernel_rfl))) ?_
  intro W base args ds gs before hval0 hW hcnd _ _hL _
  have hval : ∀ (j : Nat) t v, Tryz.f4.params[j]? = some t → args[j]? = some v → Value.okWide Tryz.prog W .any base t v := hval0
  have hW' := hW
  obtain ⟨p, q, hA0, hV, rfl, hfz, hnd⟩ := hW
  have hA : DataW.TrodAll enc Tryz.prog W 0 (fun _ => true) true Tryz.f4.params.toList args.toList ds p := hA0
  rw [Tryz.params4] at hA hval
  obtain ⟨v0, vs0, d0, ds0, p0, q0, hargs, rfl, rfl, h0, r0⟩ := trodAll_cons hA
  obtain ⟨v1, vs1, d1, ds1, p1, q1, rfl, rfl, rfl, h1, r1⟩ := trodAll_cons r0
  obtain ⟨v2, vs2, d2, ds2, p2, q2, rfl, rfl, rfl, h2, r2⟩ := trodAll_cons r1
  obtain ⟨v3, vs3, d3, ds3, p3, q3, rfl, rfl, rfl, h3, r3⟩ := trodAll_cons r2
  obtain ⟨rfl, rfl, rfl⟩ := trodAll_nil r3
  obtain rfl : args = #[v0, v1, v2, v3] := by cases args; simp_all
  obtain ⟨rfl, rfl⟩ := trodVars_none hV
  have h0k := h0
  obtain ⟨a0, n0, c0, R0, rfl, w0, f0⟩ := open_raws (hval 0 38 v0 rfl rfl) h0
  have l0 : ∀ x ∈ p0, x.block < W.heap.size := fun x hx => hW'.lt x (by simp [hx])
  obtain ⟨a1, rfl, rfl, rfl, w1⟩ := open_int Tryz.underlying3 (hval 1 3 v1 rfl rfl) h1
  obtain ⟨a2, rfl, rfl, rfl, w2⟩ := open_int Tryz.underlying3 (hval 2 3 v2 rfl rfl) h2
  obtain ⟨a3, rfl, rfl, rfl, w3⟩ := open_int Tryz.underlying3 (hval 3 3 v3 rfl rfl) h3
  clear hA0 hval0
  refine (walk W (pow_of _hL) a0 n0 c0 R0 a1 a2 a3 (And.intro w0 f0) w1 w2 w3).mono fun e W' ⟨he, bel⟩ => ?_
  subst he
  exact ⟨_, rfl, _, _, _, [], _, [], hW', trodAll_mk1 (shut_bool Tryz.underlying4 _), (trodAll_cons_mk (Below.trod laidOut (by kernel_rfl) (of_decide_eq_true (by kernel_rfl)) h0k bel l0) (trodAll_cons_mk (shut_int Tryz.underlying3 w1) (trodAll_cons_mk (shut_int Tryz.underlying3 w2) (trodAll_cons_mk (shut_int Tryz.underlying3 w3) trodAll_mk0)))), rfl, bel.frame _, fun h => by cases h⟩

theorem over : Rows.shellsGoodRow.holds Tryz.pinned (OpenSpec.ofChange Rows.shellsGoodSpec) :=
  OpenClaim.holds_of_wide 4 Tryz.f4 rfl rfl rfl rfl rfl rfl rfl ⟨rfl, rfl, rfl, rfl, rfl⟩ rfl rfl rfl rfl rfl (by kernel_rfl) Tryz.func4 (by kernel_rfl)
    (of_decide_eq_true (by kernel_rfl)) (by unfold Func.isWrapper; first | (rw [if_pos (by decide +kernel)]; kernel_rfl) | (rw [if_neg (by decide +kernel)]; exact ⟨rfl, rfl⟩))
    (fun os started H enc _ => lifted os started H enc)
end Go.Proofs.YtahoagbaadnihaaGreatDoor.shellsGood

namespace Go.Proofs.YtahoagbaadnihaaGreatDoor
theorem shellsGood_holds : Rows.ShellsGoodCardSaid :=
  Claim7.holds_tied_plain_at .later [] [.data, .data, .data, .data, .pinned] true (true, "b499f7743dfc50bd312f82b71788530561c73f43cef8a9a5f4b330cad4d5a33e") false
    shellsGood.over (fun _ h => by cases h) (by kernel_rfl) (fun _ h => by cases h) shellsGood_row_tie rfl ⟨rfl, rfl⟩ (by kernel_rfl) rfl
    (fun f fn hf hfn => by
      obtain rfl : f = 4 := Option.some.inj ((show Tryz.prog.funcNamed "arras/arraskeep.ShellsGood" = some 4 by kernel_rfl).symm.trans hf) |>.symm
      obtain rfl : fn = Tryz.f4 := (Option.some.inj (Tryz.func4.symm.trans hfn)).symm
      exact ⟨by kernel_rfl, fun j t ht => by
        rw [Tryz.params4] at ht
        have hm : t ∈ [38, 3, 3, 3] := by simpa using Array.mem_of_getElem? ht
        have hall : ([38, 3, 3, 3].all fun u => !Tryz.prog.wantsStandIn u) = true := by kernel_rfl
        exact (show Tryz.prog.wantsStandIn t = false by simpa using List.all_eq_true.1 hall t hm)⟩)
    (by kernel_rfl)
#print axioms shellsGood_holds
end Go.Proofs.YtahoagbaadnihaaGreatDoor
