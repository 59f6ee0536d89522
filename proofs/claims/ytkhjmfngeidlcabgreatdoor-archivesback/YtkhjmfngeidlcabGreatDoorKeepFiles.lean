/- What Files answers: files of raw things, with names of their own. -/
import Derived.Test.YtkhjmfngeidlcabGreatDoorKeepData
import Derived.Test.YtkhjmfngeidlcabGreatDoorArcKeep
import Derived.Test.YtkhjmfngeidlcabGreatDoorArcR
import Derived.Test.YtkhjmfngeidlcabGreatDoorStraight
namespace Go.Proofs.YtkhjmfngeidlcabGreatDoor
open Go.RowKit Go.Lib

theorem filV_app (F G : List Fi) : filV (F ++ G) = filV F ++ filV G := List.flatMap_append
theorem fil_name (j : Nat) (h : j < 10) : (⟨#[102]⟩ : ByteArray) ++ ⟨(decDigits j).toArray⟩ = fName j := by
  rw [decDigits_one h]
  show str [102] ++ str [UInt8.ofNat (48 + j)] = _
  rw [str_app, fName, byt, Int.toNat_natCast]
  rfl
theorem RawsAt.at {w : World} {a : Option Addr} {n : Nat} {R : List Raw4} (H : RawsAt w a n R) (k : Nat) (hk : k < n) : ∃ b o, a = some ⟨b, o, none⟩ ∧ b < w.heap.size ∧ (i64Ok (raw R k).kind ∧ i64Ok (raw R k).a ∧ i64Ok (raw R k).b ∧ i64Ok (raw R k).c) ∧ w.cell? ⟨b, o + k * 4, none⟩ = some (.int .i64 (raw R k).kind) ∧ w.cell? ⟨b, o + k * 4 + 1, none⟩ = some (.int .i64 (raw R k).a) ∧ w.cell? ⟨b, o + k * 4 + 2, none⟩ = some (.int .i64 (raw R k).b) ∧ w.cell? ⟨b, o + k * 4 + 3, none⟩ = some (.int .i64 (raw R k).c) := by
  rcases H with ⟨h1, _⟩ | ⟨b, o, e, H⟩
  · omega
  · exact ⟨b, o, e, H.lt, H.ok k hk, H.c0 k hk, H.c1 k hk, H.c2 k hk, H.c3 k hk⟩

/-- While files are laid one behind the other. -/
structure FlsI (w0 : World) (first : Nat) (v : Value) (F : List Fi) (w : World) : Prop where
  row : w.ownsRow w0.heap.size 39 2 v F.length (filV F)
  nam : Named F first
  below : Below w0.heap.size w0 w
section
variable {w0 w w' : World} {first : Nat} {v v' : Value} {F : List Fi}
theorem FlsI.to (h : FlsI w0 first v F w) (g : Below w.heap.size w w') : FlsI w0 first v F w' := ⟨row_to h.row g, h.nam, h.below.trans (g.mono h.below.size)⟩
theorem named_snoc (h : Named F first) (x : Fi) (hx : x.s = fName (first + F.length) ∧ x.d.size ≤ 200) : Named (F ++ [x]) first := by
  intro i hi
  rw [List.length_append, List.length_singleton] at hi
  by_cases e : i = F.length
  · subst e
    rw [show fi (F ++ [x]) F.length = x by simp [fi]]
    exact hx
  · rw [show fi (F ++ [x]) i = fi F i by simp [fi, List.getElem?_append_left (show i < F.length by omega)]]
    exact h i (by omega)
theorem FlsI.app (h : FlsI w0 first v F w) (x : Fi) (hx : x.s = fName (first + F.length) ∧ x.d.size ≤ 200) (ho : w'.ownsRow w0.heap.size 39 2 v' (F ++ [x]).length (filV (F ++ [x]))) (g : w.grownBy w' v.ownBlock) : FlsI w0 first v' (F ++ [x]) w' :=
  ⟨ho, named_snoc h.nam x hx, h.below.grown g h.below.size (fun q hq => (World.ownsRow.lt h.row q hq).1)⟩
end
/-- append of one file onto a row of the call's own, as one step of a region that draws its order. -/
theorem step_appendF {ops : Array Oper} {o : Oper} {a : Act} {w : World} {K : Act → World → Prop} {Q : Exit → Act → World → Prop} {Z : Prop}
    (hg : o.guard = none) (sl x : Operand) (hop : o.op = Op.call { callee := Callee.builtin Builtin.append, args := #[sl, x], argTypes := #[30, 30] })
    (base : Nat) (v : Value) (F : List Fi) (hs : a.eval sl = v) (hown : w.ownsRow base 39 2 v F.length (filV F)) (ad : Addr) (c : Nat) (b : Fi) (hx : a.eval x = .slice (some ad) 1 c) (hnews : ∀ j u, (filV [b])[j]? = some u → w.cell? (ad.add j) = some u)
    (hbd : F.length ≤ 100000) (hbase : base ≤ w.heap.size)
    (hK : ∀ g m cap w', Hid (m = (F ++ [b]).length) → w'.ownsRow base 39 2 (.slice (some ⟨g, 0, none⟩) m cap) (F ++ [b]).length (filV (F ++ [b])) → w.grownBy w' v.ownBlock → K (a.put o.dst (.slice (some ⟨g, 0, none⟩) m cap)) w') :
    if Region.wanted o (yielded ops a.tmps) = true then Oper.wp Tryz.prog o a w K Q else Z := by
  obtain ⟨i0, hi, hz0, hz1, hz2⟩ := info_parts info_fil
  have hw : Region.wanted o (yielded ops a.tmps) = true := by simp [Region.wanted, hg]
  rw [if_pos hw]
  obtain ⟨v', w', hrun, r1, r2, _⟩ := run_append_own (P := Tryz.prog) w base 30 o.type 39 i0 _ 2 32 Tryz.underlying30 hi hz0 hz1 hz2 rfl (by decide) v F.length (filV F) hown ad 1 c (filV [b]) rfl hnews (oneCell_fils [b]) (by unfold maxLen; omega) (by omega) hbase
  unfold Oper.wp
  simp [execOp, hop, resolve, invoke, builtin, hs, hx, hrun, Result.andThen]
  have r1' : w'.ownsRow base 39 2 v' (F ++ [b]).length (filV (F ++ [b])) := by rw [filV_app, List.length_append]; exact r1
  obtain ⟨g, cap, rfl, _⟩ := owns_form r1' (by simp)
  exact hK g _ cap w' rfl r1' r2
theorem new_fil (w : World) (b : Fi) (t : TypeId) : ∀ j u, (filV [b])[j]? = some u → (w.alloc (.cells #[.string b.s, .string b.d] t)).cell? ((⟨w.heap.size, 0, none⟩ : Addr).add j) = some u := by
  intro j u h
  have ho := Own.made w t [.string b.s, .string b.d]
  rw [Addr.add_lit, Nat.zero_add]
  exact ho.cell h
theorem filAt_row {w : World} {base n c : Nat} {a : Option Addr} {F : List Fi} (h : w.ownsRow base 39 2 (.slice a n c) F.length (filV F)) (hl : F.length ≤ 1000) (hd : ∀ i, i < F.length → (fi F i).s.size ≤ maxLen ∧ (fi F i).d.size ≤ maxLen) : n = F.length ∧ n ≤ c ∧ FilAt w a n F := by
  rcases h.2 with ⟨h', hn⟩ | ⟨g, cap, cur, h', hb, hg, hnc, hcm, hcs, ht⟩
  · cases h'
    exact ⟨hn.symm, Nat.zero_le _, hn.symm, Nat.zero_le _, fun i hi => absurd hi (Nat.not_lt_zero _), fun i hi => absurd hi (Nat.not_lt_zero _)⟩
  · cases h'
    have ho := (owns_own rfl h).1
    refine ⟨rfl, hnc, rfl, by unfold maxLen; omega, hd, fun i hi => ⟨g, 0, rfl, ho.lt, ?_, ?_⟩⟩
    · rw [Nat.zero_add]; exact ho.cell (filV_at F i hi).1
    · rw [Nat.zero_add]; exact ho.cell (filV_at F i hi).2

/-- A list of files that comes out of a call. -/
def OutFs (w : World) (first N : Nat) (e : Ending) (w' : World) : Prop := ∃ a n c F, e = .returned (.slice a n c) ∧ (n = F.length ∧ n ≤ c ∧ FilAt w' a n F) ∧ (Named F first ∧ F.length = N) ∧ Below w.heap.size w w'

set_option maxHeartbeats 3200000 in
set_option maxRecDepth 4000 in
theorem files_any (a : Option Addr) (n c : Nat) (R : List Raw4) (first most : Nat) (w : World) (H : RawsAt w a n R) (hp : Pow w) (hm : first + most ≤ 10) :
    Calls Tryz.prog 6 #[.slice a n c, .int .i64 first, .int .i64 most] w fun e w' => OutFs w first (min n most) e w' := by
  have hnb := H.nb
  unfold maxLen at hnb
  obtain ⟨N, hN⟩ : ∃ N, min n most = N := ⟨_, rfl⟩
  have hN1 : N ≤ n := by omega
  have hN2 : N ≤ most := by omega
  have HN := hid (show N = n ∨ (N = most ∧ most ≤ n) by omega)
  have HH := hid (And.intro H hp)
  have J0 : Hid (FlsI w first (.slice none 0 0) [] w) := ⟨⟨rfl, .inl ⟨rfl, rfl⟩⟩, fun i hi => absurd hi (Nat.not_lt_zero _), Below.refl _ _⟩
  rw [hN]
  clear H hp hN
  go_enter Tryz.func6, Tryz.ntmps6
  go_wp2_with fail
  go_loopw [7, 8] (fun t i wr => ∃ (k m cap : Nat) (ao : Option Addr) (F : List Fi), k ≤ N ∧ i = .int .i64 k ∧ t = .slice ao m cap ∧ Hid (F.length = k) ∧ Hid (FlsI w first (.slice ao m cap) F wr)) (fun _ i _ => N - (RowKit.intOf i).toNat)
  case atStart => exact ⟨0, 0, 0, none, [], Nat.zero_le _, rfl, rfl, rfl, J0⟩
  case round =>
    obtain ⟨k, m, cap, ao, F, hk, rfl, rfl, HF, HI⟩ := hrel
    clear J0
    by_cases hlt : k < N
    · have hlt' : (k : Int) < n := by omega
      have hlt9 : (k : Int) < most := by omega
      obtain ⟨b, o, rfl, hb, ⟨o1, o2, o3, o4⟩, x0, x1, x2, x3⟩ := HH.out.1.at k (by omega)
      have CC := hid (fun (wx : World) (g : Below w.heap.size w wx) => And.intro ((g.cell (p := ⟨b, o + k * 4, none⟩) hb).trans x0) (And.intro ((g.cell (p := ⟨b, o + k * 4 + 1, none⟩) hb).trans x1) (And.intro ((g.cell (p := ⟨b, o + k * 4 + 2, none⟩) hb).trans x2) ((g.cell (p := ⟨b, o + k * 4 + 3, none⟩) hb).trans x3))))
      have CI := hid (fun wx => Tryz.strconv_Itoa_small (first + k) (by omega) wx)
      rw [show ((first + k : Nat) : Int) = (first : Int) + k by omega] at CI
      have CD := hid (data_any (raw R k) wr.drew o1 o2 o3 o4 (HH.out.2.below (HI.out.below.drew)))
      have u1 : IntKind.i64.wrap ((first : Int) + k) = (first : Int) + k := IntWalk.i64_in _ (by omega)
      have ha : ∀ wx, (Op.stringOp .add ⟨#[102]⟩ ⟨(decDigits (first + k)).toArray⟩).run Tryz.prog wx = .ok (.string (fName (first + k))) wx := fun wx => by
        rw [← fil_name (first + k) (by omega)]
        exact run_string_add_sum wx _ _ (by rw [decDigits_one (by omega)]; show 1 + 1 ≤ _; omega)
      generalize (⟨(decDigits (first + k)).toArray⟩ : ByteArray) = Ys at CI ha
      have HX := hid (show fName (first + k) = fName (first + F.length) by rw [HF.out])
      generalize fName (first + k) = Nm at ha HX
      clear x0 x1 x2 x3 hb o1 o2 o3 o4
      generalize raw R k = r at CC CD
      obtain ⟨r1, r2, r3, r4⟩ := r
      have CC2 := hid (fun (wx : World) (g : Below w.heap.size w wx) => show wx.cell? ⟨b, o + k * 4, none⟩ = some (.int .i64 r1) ∧ wx.cell? ⟨b, o + k * 4 + 1, none⟩ = some (.int .i64 r2) ∧ wx.cell? ⟨b, o + k * 4 + 2, none⟩ = some (.int .i64 r3) ∧ wx.cell? ⟨b, o + k * 4 + 3, none⟩ = some (.int .i64 r4) from CC.out wx g)
      dsimp only at CD
      clear CC
      go_upto_region 5 with fail
      refine wp_region_till (fun w' => w'.cell? ⟨b, o + k * 4, none⟩ = some (.int .i64 r1) ∧ w'.cell? ⟨b, o + k * 4 + 1, none⟩ = some (.int .i64 r2) ∧ w'.cell? ⟨b, o + k * 4 + 2, none⟩ = some (.int .i64 r3) ∧ w'.cell? ⟨b, o + k * 4 + 3, none⟩ = some (.int .i64 r4)) (fun _ => True) 13 (by kernel_rfl) (CC2.out _ HI.out.below.drew) trivial (fun hT => ?_)
      refine wpTill_take (i := 0) (v := ?v0) rfl (by kernel_rfl) (by kernel_rfl) (by kernel_rfl) (fun _ _ _ h => h) (by rfl) ?hy0 hT ?rest0
      case hy0 => (intro w hSw; (try dsimp only at hSw); go_simp; (first | done | with_reducible rfl))
      clear hT; intro hT; try simp only [Act.put, List.setIfInBounds_toArray, List.set_cons_zero, List.set_cons_succ]
      refine wpTill_take (i := 1) (v := ?v1) rfl (by kernel_rfl) (by kernel_rfl) (by kernel_rfl) (fun _ _ _ h => h) (by rfl) ?hy1 hT ?rest1
      case hy1 => (intro w hSw; (try dsimp only at hSw); go_simp; (first | done | with_reducible rfl))
      clear hT; intro hT; try simp only [Act.put, List.setIfInBounds_toArray, List.set_cons_zero, List.set_cons_succ]
      refine wpTill_take (i := 2) (v := ?v2) rfl (by kernel_rfl) (by kernel_rfl) (by kernel_rfl) (fun _ _ _ h => h) (by rfl) ?hy2 hT ?rest2
      case hy2 => (intro w hSw; (try dsimp only at hSw); go_simp; (first | done | with_reducible rfl))
      clear hT; intro hT; try simp only [Act.put, List.setIfInBounds_toArray, List.set_cons_zero, List.set_cons_succ]
      refine wpTill_take (i := 3) (v := ?v3) rfl (by kernel_rfl) (by kernel_rfl) (by kernel_rfl) (fun _ _ _ h => h) (by rfl) ?hy3 hT ?rest3
      case hy3 => (intro w hSw; (try dsimp only at hSw); go_simp; (first | done | with_reducible rfl))
      clear hT; intro hT; try simp only [Act.put, List.setIfInBounds_toArray, List.set_cons_zero, List.set_cons_succ]
      refine wpTill_call (i := 4) (v := .string Ys) (f := 14) (args := #[.int .i64 ((first : Int) + k)]) rfl (by kernel_rfl) (by kernel_rfl) (by kernel_rfl) (fun _ _ _ h => h) (by rfl) ?hy4 ?hc4 hT ?rest4
      case hy4 => (intro w hSw; (try dsimp only at hSw); go_simp; (first | done | with_reducible rfl))
      case hc4 => exact CI.out
      clear hT; intro hT; try simp only [Act.put, List.setIfInBounds_toArray, List.set_cons_zero, List.set_cons_succ]
      refine wpTill_take (i := 5) (v := ?v5) rfl (by kernel_rfl) (by kernel_rfl) (by kernel_rfl) (fun _ _ _ h => h) (by rfl) ?hy5 hT ?rest5
      case hy5 => (intro w hSw; (try dsimp only at hSw); go_simp; (first | done | with_reducible rfl))
      clear hT; intro hT; try simp only [Act.put, List.setIfInBounds_toArray, List.set_cons_zero, List.set_cons_succ]
      refine wpTill_take (i := 6) (v := ?v6) rfl (by kernel_rfl) (by kernel_rfl) (by kernel_rfl) (fun _ _ _ h => h) (by rfl) ?hy6 hT ?rest6
      case hy6 => (intro w hSw; (try dsimp only at hSw); go_simp; (first | done | with_reducible rfl))
      clear hT; intro hT; try simp only [Act.put, List.setIfInBounds_toArray, List.set_cons_zero, List.set_cons_succ]
      refine wpTill_take (i := 7) (v := ?v7) rfl (by kernel_rfl) (by kernel_rfl) (by kernel_rfl) (fun _ _ _ h => h) (by rfl) ?hy7 hT ?rest7
      case hy7 => (intro w hSw; (try dsimp only at hSw); go_simp; (first | done | with_reducible rfl))
      clear hT; intro hT; try simp only [Act.put, List.setIfInBounds_toArray, List.set_cons_zero, List.set_cons_succ]
      refine wpTill_take (i := 8) (v := ?v8) rfl (by kernel_rfl) (by kernel_rfl) (by kernel_rfl) (fun _ _ _ h => h) (by rfl) ?hy8 hT ?rest8
      case hy8 => (intro w hSw; (try dsimp only at hSw); go_simp; (first | done | with_reducible rfl))
      clear hT; intro hT; try simp only [Act.put, List.setIfInBounds_toArray, List.set_cons_zero, List.set_cons_succ]
      refine wpTill_take (i := 9) (v := ?v9) rfl (by kernel_rfl) (by kernel_rfl) (by kernel_rfl) (fun _ _ _ h => h) (by rfl) ?hy9 hT ?rest9
      case hy9 => (intro w hSw; (try dsimp only at hSw); go_simp; (first | done | with_reducible rfl))
      clear hT; intro hT; try simp only [Act.put, List.setIfInBounds_toArray, List.set_cons_zero, List.set_cons_succ]
      refine wpTill_step (i := 10) rfl (by kernel_rfl) (fun K hK => ?_)
      go_simp
      go_at_call 15
      refine CD.out.mono ?_
      rintro _ w5 ⟨⟨sd, rfl, zd⟩, q5⟩
      have q6 := undrew q5
      have J5 := hid (HI.out.to q6)
      have HY := hid (show (⟨Nm, sd⟩ : Fi).s = fName (first + F.length) ∧ (⟨Nm, sd⟩ : Fi).d.size ≤ 200 from ⟨HX.out, zd⟩)
      refine hK.out _ _ ?hS10 ?rest10
      case hS10 => exact ⟨CC2.out _ J5.out.below, fun _ => trivial⟩
      clear hT hK K; intro hT; try simp only [Act.put, List.setIfInBounds_toArray, List.set_cons_zero, List.set_cons_succ]
      clear q5 q6 CD CI
      refine wpTill_take (i := 11) (v := ?v11) rfl (by kernel_rfl) (by kernel_rfl) (by kernel_rfl) (fun _ _ _ h => h) (by rfl) ?hy11 hT ?rest11
      case hy11 => (intro w hSw; (try dsimp only at hSw); go_simp; (first | done | with_reducible rfl))
      clear hT; intro hT; try simp only [Act.put, List.setIfInBounds_toArray, List.set_cons_zero, List.set_cons_succ]
      refine wpTill_step (i := 12) rfl (by kernel_rfl) (fun K hK => ?_)
      go_simp
      have qa : Below w5.heap.size w5 (w5.alloc (.cells #[.string Nm, .string sd] 39)) := (Below.refl _ w5).alloc (Nat.le_refl _) _
      have J6 := hid (J5.out.to qa)
      have NB := hid (new_fil w5 ⟨Nm, sd⟩ 39)
      refine hK.out _ _ ?hS12 ?rest12
      case hS12 => exact ⟨CC2.out _ J6.out.below, fun _ => trivial⟩
      clear hT hK K J5; intro hT; try simp only [Act.put, List.setIfInBounds_toArray, List.set_cons_zero, List.set_cons_succ]
      refine wpTill_step (i := 13) rfl (by kernel_rfl) (fun K hK => ?_)
      refine step_appendF (by rfl) _ _ (by rfl) w.heap.size _ F (by rfl) J6.out.row ⟨w5.heap.size, 0, none⟩ 1 ⟨Nm, sd⟩ (by rfl) NB.out (by rw [HF.out]; omega) J6.out.below.size ?_
      intro g8 m8 cap8 w8 hm8 hown8 hgrow8
      have J8 := hid (J6.out.app ⟨Nm, sd⟩ HY.out hown8 hgrow8)
      refine hK.out _ _ ?hS13 ?rest13
      case hS13 => exact ⟨CC2.out _ J8.out.below, fun _ => trivial⟩
      clear hT hK K hown8 hgrow8 J6 NB CC2; intro hT; try simp only [Act.put, List.setIfInBounds_toArray, List.set_cons_zero, List.set_cons_succ]
      refine wpTill_take (i := 14) (v := ?v14) rfl (by kernel_rfl) (by kernel_rfl) (by kernel_rfl) (fun _ _ _ h => h) (by rfl) ?hy14 hT ?rest14
      case hy14 => (intro w hSw; (try dsimp only at hSw); go_simp; (first | done | with_reducible rfl))
      clear hT; intro hT; try simp only [Act.put, List.setIfInBounds_toArray, List.set_cons_zero, List.set_cons_succ]
      refine wpTill_done (by kernel_rfl) ?_ _
      have HL := hid (show (F ++ [(⟨Nm, sd⟩ : Fi)]).length = k + 1 by rw [List.length_append, HF.out]; rfl)
      clear ha HX HY
      go_wp2
      go_roundw
      case rel => exact ⟨k + 1, m8, cap8, some ⟨g8, 0, none⟩, F ++ [⟨Nm, sd⟩], by omega, by go_num, rfl, HL, J8⟩
      case measure => simp [RowKit.intOf]; omega
    · obtain rfl : k = N := by omega
      have HR := filAt_row HI.out.row (by rw [HF.out]; omega) (fun i hi => by
        obtain ⟨e1, e2⟩ := HI.out.nam i hi
        rw [e1]
        exact ⟨by show (str _).size ≤ _; rw [str_size]; unfold maxLen; simp, by unfold maxLen; omega⟩)
      have FIN : Hid (OutFs w first k (.returned (.slice ao m cap)) wr) := ⟨ao, m, cap, F, rfl, HR, ⟨HI.out.nam, HF.out⟩, HI.out.below⟩
      by_cases hkn : k = n
      · have hlt' : ¬ (k : Int) < n := by omega
        clear HI HH HN HR hkn
        go_wp2
        go_ret
        exact FIN.out
      · have h9 : k = most ∧ most ≤ n := by rcases HN.out with h | h <;> omega
        have hlt' : (k : Int) < n := by omega
        have hlt9 : ¬ (k : Int) < most := by omega
        clear HI HH HN HR hkn h9
        go_wp2
        go_ret
        exact FIN.out
end Go.Proofs.YtkhjmfngeidlcabGreatDoor
