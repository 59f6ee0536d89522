/- Joined texts: TopCall, TopTold, TopOneM, TopMany, TopTwo, TopBoth, TopEq, TopAb. -/
import Derived.Test.YtahoagbaadnihabGreatDoorTopK
import Derived.Test.YtahoagbaadnihabGreatDoorShlDR
import Derived.Test.YtahoagbaadnihabGreatDoorTopP
import Derived.Deep.RegionWith
import Derived.Deep.RegionHeld3
import Derived.Handy
import Derived.Deep.QuietTactic
import Derived.BigQuiet
import Derived.Shelf.Abstract
import Derived.Lib.SliceRun
/- arrastop.run: acts put together and done over a new archive. -/
namespace Go.Proofs.YtahoagbaadnihabGreatDoor
open Go.RowKit Go.Lib

/-- What the acts answer over a new archive of 48 sectors. -/
def run48 (l : List Ac) : Ha × List An := runS ⟨(arNew 48).1, 0, 0⟩ l
theorem arnew48 : (arNew 48).2 = 0 := congrArg Prod.snd (arc_new 48 (by omega) (by omega) (by omega) 0 (by omega)).1
theorem scr48 (l : List Ac) (h : l.length ≤ 200) : scrS 48 l = ((run48 l).2, (run48 l).1.A, 0) := by
  rw [scrS, if_pos arnew48, if_neg (by omega)]
  rfl
theorem run48_may (l : List Ac) : arMay (run48 l).1.A = true := run_may l _ (arnew_may 48 arnew48)
theorem run48_len (l : List Ac) : (run48 l).2.length = l.length := run_len _ l
/-- Answers and an array that come out. -/
def OutTr (w : World) (l : List Ac) (e : Ending) (w' : World) : Prop :=
  ∃ a n c x m d L, e = .returned (.tuple #[.slice a n c, .agg #[.slice x m d], .bool true]) ∧ (ans L = (run48 l).2 ∧ n ≤ c ∧ AnsAt w' a n L) ∧ (ArrAt w' x m (run48 l).1.A ∧ arMay (run48 l).1.A = true) ∧ Below w.heap.size w w'
theorem OutTr.drew {w w' : World} {l : List Ac} {e : Ending} (h : OutTr w l e w') : OutTr w l e w'.drew := by
  obtain ⟨a, n, c, x, m, d, L, h1, ⟨h2, h3, h4⟩, ⟨h5, h6⟩, h7⟩ := h
  exact ⟨a, n, c, x, m, d, L, h1, ⟨h2, h3, h4.below (Below.refl _ _).drew⟩, ⟨h5.below (Below.refl _ _).drew, h6⟩, h7.drew⟩
theorem ans_len {L : List Nx} {l : List Ac} (h : ans L = (run48 l).2) : L.length = l.length := by
  have := congrArg List.length h
  rw [run48_len, ans, List.length_map] at this
  exact this
theorem tr_out {w W w1 : World} {l : List Ac} {a x : Option Addr} {n c m d : Nat} {L : List Nx} (hl : l.length ≤ 200) (hW : Below w.heap.size w W) (hB : Below W.heap.size W w1) (hr : Own W w.heap.size 35 [.slice none 0 0]) (h2 : ans L = (run48 l).2) (h3 : AnsI w1 W.heap.size (.slice a n c) L) (h4 : ArrAt w1 x m (run48 l).1.A) :
    OutTr w l (.returned (.tuple #[.slice a n c, .agg #[.slice x m d], .bool true])) (w1.setCell ⟨w.heap.size, 0, none⟩ (.slice x m d)) := by
  have hlt := hr.lt
  have c1 := (Chg.refl (fun j => j = w.heap.size) w1).set (p := w.heap.size) rfl 0 (.slice x m d)
  have hL := ans_len h2
  have hm := run48_may l
  obtain ⟨k1, k2⟩ := (h3.chg c1 (by omega)).at (by unfold maxLen; omega)
  exact ⟨a, n, c, x, m, d, L, rfl, ⟨h2, k1, k2⟩, ⟨h4.keepz hm (keepz_set ((hr.below' hB).cell (i := 0) rfl) (.inr (.inr rfl)) _), hm⟩, (bel3 hW hB).setCell (Nat.le_refl _) _⟩
set_option maxHeartbeats 3200000 in
set_option maxRecDepth 8000 in
theorem trun_any (a : Option Addr) (n c : Nat) (P : List Part) (w : World) (H : RowAt w a (P.map partV)) (hn : n = P.length) (hp : P.length ≤ 100) (hok : ∀ q ∈ P, PartOk w q) (hm : cnt P ≤ 200) :
    Calls Tryz.prog 11 #[.slice a n c] w (OutTr w (partL P)) := by
  obtain ⟨W, hW⟩ : ∃ W, W = w.alloc (.cells #[.slice none 0 0] 35) := ⟨_, rfl⟩
  have hB : Below w.heap.size w W := by rw [hW]; go_grown
  have rb : Own W w.heap.size 35 [.slice none 0 0] := by rw [hW]; exact Own.made w 35 [.slice none 0 0]
  have C1 := hid (concat_any a n c P W (H.below hB) hn hp (fun q hq => (hok q hq).below hB) (by omega))
  have HH := hid (And.intro hB (And.intro rb (show (partL P).length ≤ 200 from hm)))
  clear H hn hp hok hm hB rb
  generalize partL P = l at C1 HH ⊢
  obtain ⟨post, hpost⟩ : ∃ post, post = OutTr w l := ⟨_, rfl⟩
  rw [← hpost]
  have HP := hid hpost
  clear hpost
  go_enter Tryz.func11, Tryz.ntmps11
  go_upto_region 1 with fail
  rw [← hW]
  clear hW
  go_wp2_with fail
  refine C1.out.mono ?_
  rintro _ w1 ⟨xa, xn, xc, L, rfl, hL, hl, g1⟩
  have hLl : L.length ≤ 200 := by rw [← acs_len, hl]; exact HH.out.2.2
  have hXn := (hL.at (by unfold maxLen; omega)).2.sn
  have C2 := hid (srun_any 48 xa xn xc L w1 (hL.at (by unfold maxLen; omega)).2)
  rw [hl, scr48 l HH.out.2.2] at C2
  have HX := hid (And.intro hXn (And.intro (show L.length = l.length by rw [← hl, acs_len]) g1))
  clear hL hl hLl g1 C1 hXn
  go_wp2_with fail
  refine C2.out.mono ?_
  rintro _ w2 ⟨ya, yn, yc, za, zm, zc, M, rfl, ⟨h2, h3⟩, h4, g2⟩
  have hML : xn = yn := by
    have e1 := ans_len h2
    have e2 := (h3.at (by unfold maxLen; have := HH.out.2.2; omega)).2.sn
    have e3 := HX.out.1
    have e4 := HX.out.2.1
    omega
  have bA : Below w2.heap.size w2 (w2.alloc (.cells #[.slice za zm zc] 35)) := (Below.refl _ w2).alloc (Nat.le_refl _) _
  have K := hid (tr_out (d := zc) HH.out.2.2 HH.out.1 (bel3 HX.out.2.2 (bel3 g2 bA)) HH.out.2.1 h2 ((h3.below bA).less (Nat.le_trans (Nat.le_refl _) HX.out.2.2.size)) (h4.below bA))
  have q0 := (HH.out.2.1.below' (bel3 HX.out.2.2 (bel3 g2 bA))).cell (i := 0) rfl
  have qf := (HH.out.2.1.below' (bel3 HX.out.2.2 (bel3 g2 bA))).free 0
  have s0 := (Own.made w2 35 [.slice za zm zc]).cell (i := 0) rfl
  have hyn := (h3.at (by unfold maxLen; have e1 := ans_len h2; have := HH.out.2.2; omega)).1
  subst hML
  clear h2 h3 h4 g2 bA C2 HX
  go_upto_region 3 with fail
  obtain ⟨V, hV⟩ : ∃ V, V = w2.alloc (.cells #[.slice za zm zc] 35) := ⟨_, rfl⟩
  have hV' : w2.alloc (.cells [Value.slice za zm zc].toArray 35) = V := hV.symm
  rw [hV'] at s0
  rw [← hV] at K q0 qf ⊢
  clear hV hV'
  have y0 := World.cell?_setCell_same V ⟨w.heap.size, 0, none⟩ (.slice za zm zc) q0
  go_region
  all_goals go_wp2
  all_goals refine bodyPost_ret (v := .tuple #[.slice ya xn yc, .agg #[.slice za zm zc], .bool true]) (by simp [results, Tryz.results11, go_sem, y0]) rfl ?_
  all_goals rw [HP.out]
  all_goals (first | exact K.out | exact OutTr.drew K.out)
end Go.Proofs.YtahoagbaadnihabGreatDoor

/- arrastop.told: do the last answers tell all files that were added? -/
namespace Go.Proofs.YtahoagbaadnihabGreatDoor
open Go.RowKit Go.Lib

def an1 (R : List An) (i : Nat) : An := R[i]?.getD ⟨0, [], [], 0, []⟩
theorem an1_of {L : List Nx} {i : Nat} {q : Nx} (h : L[i]? = some q) : an1 (ans L) i = q.r := by
  rw [an1, ans, List.getElem?_map, h]
  rfl
def OutYes (w : World) (e : Ending) (w' : World) : Prop := e = .returned (.bool true) ∧ Below w.heap.size w w'
end Go.Proofs.YtahoagbaadnihabGreatDoor

/- What the last answers of a script tell, purely; contracts of small pieces that the theorems of the whole share. -/
namespace Go.Proofs.YtahoagbaadnihabGreatDoor
open Go.RowKit Go.Lib

set_option maxHeartbeats 400000 in
theorem Picked_any (x m : Int) (w : World) (hx : i64Ok x) (hm : 0 < m ∧ m ≤ 9223372036854775807) :
    Calls Tryz.prog 10 #[.int .i64 x, .int .i64 m] w fun e w' => e = .returned (.int .i64 (pick x m)) ∧ w' = w := by
  go_enter Tryz.func10, Tryz.ntmps10
  go_wp2_with (go_at_call 24; refine (picked_gen _ _ _ hx hm).mono ?_; rintro _ w9 ⟨rfl, h9⟩; (have h8 := h9.symm); subst h8)
  go_ret
  exact ⟨rfl, rfl⟩
theorem nat_pick (x : Int) : ∃ K : Nat, pick x 3 = (K : Int) ∧ K < 3 := by
  have := pick_bd x 3 (by omega)
  exact ⟨(pick x 3).toNat, by omega, by omega⟩
theorem hurtsgo_le (d m : Int) : ∀ (l : List Raw4) (T : List Int), (hurtsGo d m l T).length ≤ l.length
  | [], _ => Nat.le_refl _
  | r :: l, T => by
    rw [hurtsGo_cons]
    have h := hurtsgo_le d m l
    split
    · have := h T; simp only [List.length_cons]; omega
    · split
      · have := h (pick r.a m :: T); simp only [List.length_cons]; omega
      · split
        · have := h T; simp only [List.length_cons]; omega
        · have := h T; simp only [List.length_cons]; omega
theorem hurts_le (l : List Raw4) (d m : Int) (most : Nat) : (hurtsOf l d m most).length ≤ most := by
  unfold hurtsOf
  refine Nat.le_trans (hurtsgo_le _ _ _ _) ?_
  rw [List.length_take]
  omega
end Go.Proofs.YtahoagbaadnihabGreatDoor

/- Lists of acts, laid as one argument of arrastop.run; a scrub between two hurts, purely. -/
namespace Go.Proofs.YtahoagbaadnihabGreatDoor
open Go.RowKit Go.Lib

theorem laid_run {w : World} (P : List Part) (hp : ∀ q ∈ P, PartOk w q) (hc : P.length ≤ 100) {l : List Ac} (hl : partL P = l) (hm : l.length ≤ 200) (n : Nat) (hn : n = P.length) :
    Calls Tryz.prog 11 #[.slice (some ⟨w.heap.size, 0, none⟩) n n] (w.alloc (.cells (P.map partV).toArray 23)) (OutTr (w.alloc (.cells (P.map partV).toArray 23)) l) := by
  have g : Below w.heap.size w (w.alloc (.cells (P.map partV).toArray 23)) := (Below.refl _ w).alloc (Nat.le_refl _) _
  rw [← hl]
  exact trun_any (some ⟨w.heap.size, 0, none⟩) n n P _ (Own.made w 23 (P.map partV)).row hn hc (fun q hq => (hp q hq).below g) (by rw [cnt, hl]; exact hm)
/-- Acts with no files, written out in place. -/
theorem acts_laid (w : World) (L : List Ac) (hf : ∀ x ∈ L, x.files = [] ∧ x.name.size ≤ maxLen) (hL : L.length ≤ 1000) :
    PartOk (w.alloc (.cells (axV (L.map fun x => ⟨x, nilS⟩)).toArray 29)) ⟨⟨some ⟨w.heap.size, 0, none⟩, L.length, L.length⟩, L.map fun x => ⟨x, nilS⟩⟩ := by
  refine ⟨Nat.le_refl _, ⟨by simp, by show L.length ≤ maxLen; unfold maxLen; omega, (Own.made w 29 _).row, fun q hq => ?_⟩⟩
  obtain ⟨x, hx, rfl⟩ := List.mem_map.1 hq
  exact axOk_nil (hf x hx).1 (hf x hx).2
theorem zeros48 : (zeroRows 48).length = 48 := by simp [zeroRows]
end Go.Proofs.YtahoagbaadnihabGreatDoor

/- Scripts that hurt two devices, purely. -/
namespace Go.Proofs.YtahoagbaadnihabGreatDoor
open Go.RowKit Go.Lib

theorem two_hurts (Gs : List (List Fi)) (hc : Chain 0 Gs) (ht : tot Gs ≤ 8) (K : Nat) (hK : K < 3) (E : Nat) (hE : E < 3) (hne : E ≠ K) (H1 H2 : List Raw4) (m : Nat) :
    ∃ A2 T cs all' C' D', run48 (Gs.map addAc ++ ((hurtsOf H1 K 48 m).map hurtAc ++ (hurtsOf H2 E 48 m).map hurtAc)) = (⟨A2, 0, 0⟩, cs.map anE ++ ((hurtsOf H1 K 48 m).map (fun _ => anE 0) ++ (hurtsOf H2 E 48 m).map (fun _ => anE 0))) ∧ WornA all' T A2 ∧ cs.length = Gs.length ∧ Holds all' C' D' (okG (Gs.zip cs)) ∧ all'.length = 48 := by
  obtain ⟨e0, a0⟩ := arc_new 48 (by omega) (by omega) (by omega) K hK
  obtain ⟨all', C', D', E', cs, e1, l1, l2, a1, _⟩ := adds_run hK 0 0 Gs _ _ _ _ _ 0 a0 hc (by omega)
  have l3 : all'.length = 48 := by rw [l2]; exact zeros48
  have hok : HOk K (dn all' K) [] (hurtsOf H1 K 48 m) := by
    have q := hok_of a1.holds.alls K H1 m
    rw [l3] at q
    exact q
  have hok2 : HOk E (dn all' E) [] (hurtsOf H2 E 48 m) := by
    have q := hok_of a1.holds.alls E H2 m
    rw [l3] at q
    exact q
  have w0 := worn_with a1.holds.alls K hK [] E' a1.worn
  obtain ⟨D2, e2, w2⟩ := hurts_run K hK 0 0 (hurtsOf H1 K 48 m) _ _ w0 (by rw [if_pos rfl]; exact hok)
  have w3 := w0.set K hK _ D2 w2
  obtain ⟨D4, e4, w4⟩ := hurts_run E hE 0 0 (hurtsOf H2 E 48 m) _ _ w3 (by rw [if_neg hne, if_neg hne]; exact hok2)
  refine ⟨_, _, cs, all', C', D', ?_, w3.set E hE _ D4 w4, l1, by have := a1.holds; rwa [List.nil_append] at this, l3⟩
  have e0' : (arNew ((48 : Nat) : Int)).1 = With (zeroRows 48) K (whole (dn (zeroRows 48) K) (ds K) (dp (zeroRows 48) K)) := congrArg Prod.fst e0
  rw [run48, show (arNew 48).1 = _ from e0', run_app, e1]
  dsimp only
  rw [run_app, e2]
  dsimp only
  rw [e4]
end Go.Proofs.YtahoagbaadnihabGreatDoor

/- arrastop.both: two devices hurt. -/
namespace Go.Proofs.YtahoagbaadnihabGreatDoor
open Go.RowKit Go.Lib

/-- append of acts, as one step of a region that draws its order. -/
theorem step_appendX {ops : Array Oper} {o : Oper} {a : Act} {w : World} {K : Act → World → Prop} {Q : Exit → Act → World → Prop} {E : Prop}
    (hg : o.guard = none) (sl x : Operand) (hop : o.op = Op.call { callee := Callee.builtin Builtin.append, args := #[sl, x], argTypes := #[23, 23] })
    (base : Nat) (v : Value) (L M : List Ax) (hs : a.eval sl = v) (H : ActI w base v L) (xa : Option Addr) (n2 c2 : Nat) (hx : a.eval x = .slice xa n2 c2) (hn : n2 = M.length) (hc : M = [] ∨ ∃ ad, xa = some ad ∧ ∀ j u, (axV M)[j]? = some u → w.cell? (ad.add j) = some u) (hok : ∀ q ∈ M, AxOk w q ∧ Off v.ownBlock q.f.a q.f.n) (hb : L.length + M.length ≤ 100000) (hbase : base ≤ w.heap.size)
    (hK : ∀ a' n' c' w', Hid (n' = (L ++ M).length) → ActI w' base (.slice a' n' c') (L ++ M) → w.grownBy w' v.ownBlock → K (a.put o.dst (.slice a' n' c')) w') :
    if Region.wanted o (yielded ops a.tmps) = true then Oper.wp Tryz.prog o a w K Q else E := by
  have hw : Region.wanted o (yielded ops a.tmps) = true := by simp [Region.wanted, hg]
  rw [if_pos hw]
  subst hn
  obtain ⟨a', n', c', w', hr, h1, h2, h3⟩ := run_appendX (ty := o.type) H M xa c2 hc hok hb hbase
  unfold Oper.wp
  simp [execOp, hop, resolve, invoke, builtin, hs, hx, hr, Result.andThen]
  exact hK _ _ _ w' h1 h2 h3
/-- The two rows, put together. -/
theorem both_fin {w W w' : World} {va v : Value} {L M : List Ax} {l1 l2 : List Ac} (hb : Below w.heap.size w W) (h1 : acs L = l1) (h2 : acs M = l2) (a : Option Addr) (n c : Nat) (hv : v = .slice a n c) (base : Nat) (hbase : w.heap.size ≤ base) (hI : ActI w' base v (L ++ M)) (hL : ActI W base va L) (g : W.grownBy w' va.ownBlock) : OutX w (l1 ++ l2) (.returned v) w' := by
  subst hv
  exact ⟨a, n, c, L ++ M, rfl, hI.down hbase, by rw [acs_app, h1, h2], hb.grown g hb.size (fun b e => Nat.le_trans hbase (World.ownsRow.lt hL.own b e).1)⟩
theorem wrap_next {K : Nat} (h : K < 3) : IntKind.i64.wrap ((K : Int) + 1) = (K : Int) + 1 := by
  rw [IntKind.wrap_i64]
  omega
theorem drew_sz (w : World) : w.drew.heap.size = w.heap.size := rfl
theorem tmod_next {K E : Nat} (h : K < 3) (hE : E = (K + 1) % 3) : ((K : Int) + 1).tmod 3 = (E : Int) := by
  subst hE
  match K, h with
  | 0, _ => rfl
  | 1, _ => rfl
  | 2, _ => rfl
theorem half_ne {m d h : Nat} (hh : h = m / 2) (h0 : 0 < m) (hmd : m ≤ d) : ¬ d = h := by omega
theorem half_zero {m h : Nat} (hh : h = m / 2) (h0 : ¬ 0 < m) : h = 0 ∧ m - h = 0 ∧ m = 0 := by omega
/-- Both rows, when the second one is made. -/
theorem both_two {w w5 w6 : World} {B : Nat} {ha ia : Option Addr} {hn hc im ic : Nat} {L M : List Ax} {l1 l2 : List Ac} (hB : B = w.heap.size) (hL : ActI w5 B (.slice ha hn hc) L) (h1 : acs L = l1) (hM : ActI w6 w5.heap.size (.slice ia im ic) M) (h2 : acs M = l2) (k1 : l1.length ≤ 30) (k2 : l2.length ≤ 30) (hz : ∀ x ∈ l2, x.files = []) (g5 : Below w.heap.size w w5) (g6 : Below w5.heap.size w5 w6) :
    ActI w6 w.heap.size (.slice ha hn hc) L ∧ im = M.length ∧ (M = [] ∨ ∃ ad, ia = some ad ∧ ∀ j u, (axV M)[j]? = some u → w6.cell? (ad.add j) = some u) ∧ (∀ q ∈ M, AxOk w6 q ∧ Off (Value.slice ha hn hc).ownBlock q.f.a q.f.n) ∧ L.length + M.length ≤ 100000 ∧ w.heap.size ≤ w6.heap.size ∧
      ∀ a7 n7 c7 w7, ActI w7 w.heap.size (.slice a7 n7 c7) (L ++ M) → w6.grownBy w7 (Value.slice ha hn hc).ownBlock → OutX w (l1 ++ l2) (.returned (.slice a7 n7 c7)) w7 := by
  subst hB
  have e1 := congrArg List.length h1
  have e2 := congrArg List.length h2
  rw [acs_len] at e1 e2
  have hMt := (hM.at (by unfold maxLen; omega)).2
  have hL6 := hL.below g6
  refine ⟨hL6, hMt.sn, actAt_src hMt, fun q hq => ⟨hMt.ok q hq, ?_⟩, by omega, Nat.le_trans g5.size g6.size, fun a7 n7 c7 w7 hI hg => both_fin (bel3 g5 g6) h1 h2 a7 n7 c7 rfl w.heap.size (Nat.le_refl _) hI hL6 hg⟩
  intro h0
  have hf := (hMt.ok q hq).1.2.sn
  rw [hz q.x (by rw [← h2]; exact List.mem_map.2 ⟨q, hq, rfl⟩)] at hf
  have : q.f.n = 0 := hf
  omega
set_option maxHeartbeats 3200000 in
set_option maxRecDepth 8000 in
theorem both_any (b : Option Addr) (m d : Nat) (S : List Raw4) (x : Int) (most K : Nat) (w : World) (hx : i64Ok x) (hK : pick x 3 = (K : Int)) (hK3 : K < 3) (H : RawsAt w b m S) (hmd : m ≤ d) (hmost : most ≤ 30) :
    Calls Tryz.prog 9 #[.slice b m d, .int .i64 x, .int .i64 most] w (OutX w ((hurtsOf (S.take (m / 2)) K 48 most).map hurtAc ++ (hurtsOf (S.drop (m / 2)) ((K + 1) % 3 : Nat) 48 most).map hurtAc)) := by
  have CP := hid (Picked_any x 3 w hx (by omega))
  rw [hK] at CP
  obtain ⟨h, hh⟩ : ∃ h, h = m / 2 := ⟨_, rfl⟩
  obtain ⟨E, hE⟩ : ∃ E, E = (K + 1) % 3 := ⟨_, rfl⟩
  rw [← hh, ← hE]
  have q1 : (m : Int) / 2 = (h : Int) := by omega
  have q2 : ((K : Int) + 1) % 3 = (E : Int) := by omega
  have q3 : IntKind.i64.wrap ((K : Int) + 1) = (K : Int) + 1 := wrap_next hK3
  have hE3 : E < 3 := by omega
  have hhm : h ≤ m := by omega
  have hnb := H.nb
  unfold maxLen at hnb
  have qw : wrap64 (h : Int) = (h : Int) := by unfold wrap64; omega
  have p1 : (0 : Int) ≤ (h : Int) := Int.natCast_nonneg h
  have p2 : (h : Int) ≤ (m : Int) := Int.ofNat_le.2 hhm
  have p3 : (h : Int) ≤ (d : Int) := Int.ofNat_le.2 (Nat.le_trans hhm hmd)
  have p4 : (m : Int) ≤ (d : Int) := Int.ofNat_le.2 hmd
  have h1' := hurts_le (S.take h) K 48 most
  have h2' := hurts_le (S.drop h) E 48 most
  have hl1 : ((hurtsOf (S.take h) K 48 most).map hurtAc).length ≤ 30 := by rw [List.length_map]; omega
  have hl2 : ((hurtsOf (S.drop h) E 48 most).map hurtAc).length ≤ 30 := by rw [List.length_map]; omega
  have HL := hid (And.intro hl1 (And.intro hl2 (show ∀ x ∈ (hurtsOf (S.drop h) E 48 most).map hurtAc, x.files = [] from fun x hx => by obtain ⟨y, _, rfl⟩ := List.mem_map.1 hx; rfl)))
  clear h1' h2' hl1 hl2 hx hK
  have q5 := tmod_next hK3 hE
  by_cases hm0 : 0 < m
  · obtain ⟨b0, o0, rfl, HR⟩ : ∃ b0 o0, b = some ⟨b0, o0, none⟩ ∧ RawsAt w (some ⟨b0, o0, none⟩) m S := by
      rcases H with ⟨h1, _⟩ | ⟨b0, o0, e, h2⟩
      · exact absurd hm0 (by rw [h1]; exact Nat.lt_irrefl 0)
      · exact ⟨b0, o0, e, .inr ⟨b0, o0, rfl, h2⟩⟩
    have hdh := half_ne hh hm0 hmd
    have CH1 := hid (fun wx (g : Below w.heap.size w wx) (a' : Option Addr) c => hurts_out (some ⟨b0, o0, none⟩) h c (S.take h) K 48 most wx ((HR.take h hhm).below g) hK3 (by decide) (by decide) (Nat.le_trans hmost (by decide)))
    have CH2 := hid (fun wx (g : Below w.heap.size w wx) (a' : Option Addr) c => hurts_out (some ⟨b0, o0 + h * 4, none⟩) (m - h) c (S.drop h) E 48 most wx ((HR.drop h hhm).below g) hE3 (by decide) (by decide) (Nat.le_trans hmost (by decide)))
    clear H HR hE hK3 hE3 hnb hh
    generalize (hurtsOf (S.take h) K 48 most).map hurtAc = l1 at CH1 HL ⊢
    generalize (hurtsOf (S.drop h) E 48 most).map hurtAc = l2 at CH2 HL ⊢
    rw [← q5] at CH2
    clear q5 q2
    go_enter Tryz.func9, Tryz.ntmps9
    go_wp2_with fail
    refine CP.out.mono ?_
    rintro _ w9 ⟨rfl, h9⟩
    have h8 := h9.symm
    subst h8
    clear CP
    go_upto_region 3 with fail
    try rw [q1]
    try rw [qw]
    go_region_held3 (fun _ => True) (exact trivial) (first
      | (go_at_call_of 15 (Value.int IntKind.i64 (K : Int)); refine (CH1.out _ ?_ none _).mono ?_; exact (Below.refl _ w).drew; rintro _ w5 ⟨ha, hn, hc, L, rfl, hL1, hL2, g5⟩; (have G5 := hid (undrew g5)); (have J5 := hid (And.intro hL1 hL2)); clear hL1 hL2 g5)
      | (go_at_call 15; refine (CH2.out _ ?_ none _).mono ?_; exact G5.out; rintro _ w6 ⟨ia, im, ic, M, rfl, hM1, hM2, g6⟩; (have S6 := hid (both_two (drew_sz w) J5.out.1 J5.out.2 hM1 hM2 HL.out.1 HL.out.2.1 HL.out.2.2 G5.out g6)); clear hM1 hM2 g6)
      | (refine step_appendX rfl (.tmp 19) (.tmp 27) rfl w.heap.size (.slice ha hn hc) L M rfl S6.out.1 ia im ic rfl S6.out.2.1 S6.out.2.2.1 S6.out.2.2.2.1 S6.out.2.2.2.2.1 S6.out.2.2.2.2.2.1 ?_; intro a7 n7 c7 w7 hn7 hI7 hg7; (have F7 := hid (S6.out.2.2.2.2.2.2 a7 n7 c7 w7 hI7 hg7)); clear hn7 hI7 hg7))
    all_goals go_wp2
    all_goals go_ret
    all_goals exact F7.out
  · have hz := half_zero hh hm0
    have hS : S = [] := List.eq_nil_of_length_eq_zero (H.len.symm.trans hz.2.2)
    have CH1 := hid (fun wx (_g : Below w.heap.size w wx) a' c => hurts_out a' h c (S.take h) K 48 most wx (.inl ⟨hz.1, by rw [hS]; exact List.take_nil⟩) hK3 (by decide) (by decide) (Nat.le_trans hmost (by decide)))
    have CH2 := hid (fun wx (_g : Below w.heap.size w wx) a' c => hurts_out a' (m - h) c (S.drop h) E 48 most wx (.inl ⟨hz.2.1, by rw [hS]; exact List.drop_nil⟩) hE3 (by decide) (by decide) (Nat.le_trans hmost (by decide)))
    clear H hS hE hK3 hE3 hnb hh hm0 hz
    generalize (hurtsOf (S.take h) K 48 most).map hurtAc = l1 at CH1 HL ⊢
    generalize (hurtsOf (S.drop h) E 48 most).map hurtAc = l2 at CH2 HL ⊢
    rw [← q5] at CH2
    clear q5 q2
    cases b with
    | none =>
      go_enter Tryz.func9, Tryz.ntmps9
      go_wp2_with fail
      refine CP.out.mono ?_
      rintro _ w9 ⟨rfl, h9⟩
      have h8 := h9.symm
      subst h8
      clear CP
      go_upto_region 3 with fail
      try rw [q1]
      try rw [qw]
      go_region_held3 (fun _ => True) (exact trivial) (first
        | (go_at_call_of 15 (Value.int IntKind.i64 (K : Int)); refine (CH1.out _ ?_ _ _).mono ?_; exact (Below.refl _ w).drew; rintro _ w5 ⟨ha, hn, hc, L, rfl, hL1, hL2, g5⟩; (have G5 := hid (undrew g5)); (have J5 := hid (And.intro hL1 hL2)); clear hL1 hL2 g5)
        | (go_at_call 15; refine (CH2.out _ ?_ _ _).mono ?_; exact G5.out; rintro _ w6 ⟨ia, im, ic, M, rfl, hM1, hM2, g6⟩; (have S6 := hid (both_two (drew_sz w) J5.out.1 J5.out.2 hM1 hM2 HL.out.1 HL.out.2.1 HL.out.2.2 G5.out g6)); clear hM1 hM2 g6)
        | (refine step_appendX rfl (.tmp 19) (.tmp 27) rfl w.heap.size (.slice ha hn hc) L M rfl S6.out.1 ia im ic rfl S6.out.2.1 S6.out.2.2.1 S6.out.2.2.2.1 S6.out.2.2.2.2.1 S6.out.2.2.2.2.2.1 ?_; intro a7 n7 c7 w7 hn7 hI7 hg7; (have F7 := hid (S6.out.2.2.2.2.2.2 a7 n7 c7 w7 hI7 hg7)); clear hn7 hI7 hg7))
      all_goals go_wp2
      all_goals go_ret
      all_goals exact F7.out
    | some ad =>
      obtain ⟨b0, o0, fr⟩ := ad
      by_cases hdh : d = h
      · have hdh := hdh
        go_enter Tryz.func9, Tryz.ntmps9
        go_wp2_with fail
        refine CP.out.mono ?_
        rintro _ w9 ⟨rfl, h9⟩
        have h8 := h9.symm
        subst h8
        clear CP
        go_upto_region 3 with fail
        try rw [q1]
        try rw [qw]
        go_region_held3 (fun _ => True) (exact trivial) (first
          | (go_at_call_of 15 (Value.int IntKind.i64 (K : Int)); refine (CH1.out _ ?_ _ _).mono ?_; exact (Below.refl _ w).drew; rintro _ w5 ⟨ha, hn, hc, L, rfl, hL1, hL2, g5⟩; (have G5 := hid (undrew g5)); (have J5 := hid (And.intro hL1 hL2)); clear hL1 hL2 g5)
          | (go_at_call 15; refine (CH2.out _ ?_ _ _).mono ?_; exact G5.out; rintro _ w6 ⟨ia, im, ic, M, rfl, hM1, hM2, g6⟩; (have S6 := hid (both_two (drew_sz w) J5.out.1 J5.out.2 hM1 hM2 HL.out.1 HL.out.2.1 HL.out.2.2 G5.out g6)); clear hM1 hM2 g6)
          | (refine step_appendX rfl (.tmp 19) (.tmp 27) rfl w.heap.size (.slice ha hn hc) L M rfl S6.out.1 ia im ic rfl S6.out.2.1 S6.out.2.2.1 S6.out.2.2.2.1 S6.out.2.2.2.2.1 S6.out.2.2.2.2.2.1 ?_; intro a7 n7 c7 w7 hn7 hI7 hg7; (have F7 := hid (S6.out.2.2.2.2.2.2 a7 n7 c7 w7 hI7 hg7)); clear hn7 hI7 hg7))
        all_goals go_wp2
        all_goals go_ret
        all_goals exact F7.out
      · have hdh := hdh
        go_enter Tryz.func9, Tryz.ntmps9
        go_wp2_with fail
        refine CP.out.mono ?_
        rintro _ w9 ⟨rfl, h9⟩
        have h8 := h9.symm
        subst h8
        clear CP
        go_upto_region 3 with fail
        try rw [q1]
        try rw [qw]
        go_region_held3 (fun _ => True) (exact trivial) (first
          | (go_at_call_of 15 (Value.int IntKind.i64 (K : Int)); refine (CH1.out _ ?_ _ _).mono ?_; exact (Below.refl _ w).drew; rintro _ w5 ⟨ha, hn, hc, L, rfl, hL1, hL2, g5⟩; (have G5 := hid (undrew g5)); (have J5 := hid (And.intro hL1 hL2)); clear hL1 hL2 g5)
          | (go_at_call 15; refine (CH2.out _ ?_ _ _).mono ?_; exact G5.out; rintro _ w6 ⟨ia, im, ic, M, rfl, hM1, hM2, g6⟩; (have S6 := hid (both_two (drew_sz w) J5.out.1 J5.out.2 hM1 hM2 HL.out.1 HL.out.2.1 HL.out.2.2 G5.out g6)); clear hM1 hM2 g6)
          | (refine step_appendX rfl (.tmp 19) (.tmp 27) rfl w.heap.size (.slice ha hn hc) L M rfl S6.out.1 ia im ic rfl S6.out.2.1 S6.out.2.2.1 S6.out.2.2.2.1 S6.out.2.2.2.2.1 S6.out.2.2.2.2.2.1 ?_; intro a7 n7 c7 w7 hn7 hI7 hg7; (have F7 := hid (S6.out.2.2.2.2.2.2 a7 n7 c7 w7 hI7 hg7)); clear hn7 hI7 hg7))
        all_goals go_wp2
        all_goals go_ret
        all_goals exact F7.out
end Go.Proofs.YtahoagbaadnihabGreatDoor

/- Rows that hold the same are equal: slices.Equal at texts, slices.EqualFunc at answers; a scrub in a script, purely. -/
namespace Go.Proofs.YtahoagbaadnihabGreatDoor
open Go.RowKit Go.Lib

theorem row_cell {w : World} {a : Option Addr} {V : List Value} (h : RowAt w a V) (k : Nat) (hk : k < V.length) : ∃ b o, a = some ⟨b, o, none⟩ ∧ b < w.heap.size ∧ w.cell? ⟨b, o + k, none⟩ = some V[k] := h k _ (List.getElem?_eq_getElem hk)
set_option maxHeartbeats 1600000 in
set_option maxRecDepth 4000 in
theorem eqT_q (a : Option Addr) (n c : Nat) (b : Option Addr) (d : Nat) (S : List ByteArray) (w : World) (h : RowAt w a (S.map .string)) (h2 : RowAt w b (S.map .string)) (hn : n = S.length) (hb : n ≤ maxLen) :
    Calls Tryz.prog 19 #[.slice a n c, .slice b n d] w fun e w' => e = .returned (.bool true) ∧ ∃ q, w' = w.drewN q := by
  have H := hid (And.intro h h2)
  have HN := hid hn
  unfold maxLen at hb
  have n1 : ((n : Int) != n) = false := bne_self_eq_false _
  clear h h2 hn
  go_enter Tryz.func19, Tryz.ntmps19
  go_wp2_with fail
  clear n1
  go_loopw [13] (fun i wr => ∃ k q : Nat, k ≤ n ∧ i = .int .i64 k ∧ wr = w.drewN q) (fun i _ => n - (RowKit.intOf i).toNat)
  case atStart => exact ⟨0, 0, Nat.zero_le _, rfl, rfl⟩
  case round =>
    obtain ⟨k, q, hk, rfl, rfl⟩ := hrel
    by_cases hlt : k < n
    · have hlt' : (k : Int) < n := by omega
      have hkS : k < (S.map Value.string).length := by rw [List.length_map, ← HN.out]; exact hlt
      obtain ⟨p, o, rfl, _, e1⟩ := row_cell H.out.1 k hkS
      obtain ⟨p2, o2, rfl, _, e3⟩ := row_cell H.out.2 k hkS
      rw [List.getElem_map] at e1 e3
      generalize S[k]'(by rw [← HN.out]; exact hlt) = s at e1 e3
      clear H HN hkS
      go_wp2_with fail
      go_quiet (fail)
      go_wp2
      go_roundw
      case rel => exact ⟨k + 1, _, by omega, by go_num, rfl⟩
      case measure => simp [RowKit.intOf]; omega
    · have hlt' : ¬ (k : Int) < n := by omega
      go_wp2
      go_ret
      exact ⟨rfl, q, rfl⟩
set_option maxHeartbeats 1600000 in
set_option maxRecDepth 4000 in
theorem eqB_q (a : Option Addr) (n c : Nat) (b : Option Addr) (d : Nat) (S : List Bool) (w : World) (h : RowAt w a (S.map .bool)) (h2 : RowAt w b (S.map .bool)) (hn : n = S.length) (hb : n ≤ maxLen) :
    Calls Tryz.prog 28 #[.slice a n c, .slice b n d] w fun e w' => e = .returned (.bool true) ∧ ∃ q, w' = w.drewN q := by
  have H := hid (And.intro h h2)
  have HN := hid hn
  unfold maxLen at hb
  have n1 : ((n : Int) != n) = false := bne_self_eq_false _
  clear h h2 hn
  go_enter Tryz.func28, Tryz.ntmps28
  go_wp2_with fail
  clear n1
  go_loopw [13] (fun i wr => ∃ k q : Nat, k ≤ n ∧ i = .int .i64 k ∧ wr = w.drewN q) (fun i _ => n - (RowKit.intOf i).toNat)
  case atStart => exact ⟨0, 0, Nat.zero_le _, rfl, rfl⟩
  case round =>
    obtain ⟨k, q, hk, rfl, rfl⟩ := hrel
    by_cases hlt : k < n
    · have hlt' : (k : Int) < n := by omega
      have hkS : k < (S.map Value.bool).length := by rw [List.length_map, ← HN.out]; exact hlt
      obtain ⟨p, o, rfl, _, e1⟩ := row_cell H.out.1 k hkS
      obtain ⟨p2, o2, rfl, _, e3⟩ := row_cell H.out.2 k hkS
      rw [List.getElem_map] at e1 e3
      generalize S[k]'(by rw [← HN.out]; exact hlt) = s at e1 e3
      clear H HN hkS
      go_wp2_with fail
      go_quiet (fail)
      go_wp2
      go_roundw
      case rel => exact ⟨k + 1, _, by omega, by go_num, rfl⟩
      case measure => simp [RowKit.intOf]; omega
    · have hlt' : ¬ (k : Int) < n := by omega
      go_wp2
      go_ret
      exact ⟨rfl, q, rfl⟩
set_option maxHeartbeats 1600000 in
set_option maxRecDepth 4000 in
theorem eqI_q (a : Option Addr) (n c : Nat) (b : Option Addr) (d : Nat) (S : List Int) (w : World) (h : RowAt w a (S.map (.int .i64))) (h2 : RowAt w b (S.map (.int .i64))) (hn : n = S.length) (hb : n ≤ maxLen) :
    Calls Tryz.prog 13 #[.slice a n c, .slice b n d] w fun e w' => e = .returned (.bool true) ∧ ∃ q, w' = w.drewN q := by
  have H := hid (And.intro h h2)
  have HN := hid hn
  unfold maxLen at hb
  have n1 : ((n : Int) != n) = false := bne_self_eq_false _
  clear h h2 hn
  go_enter Tryz.func13, Tryz.ntmps13
  go_wp2_with fail
  clear n1
  go_loopw [13] (fun i wr => ∃ k q : Nat, k ≤ n ∧ i = .int .i64 k ∧ wr = w.drewN q) (fun i _ => n - (RowKit.intOf i).toNat)
  case atStart => exact ⟨0, 0, Nat.zero_le _, rfl, rfl⟩
  case round =>
    obtain ⟨k, q, hk, rfl, rfl⟩ := hrel
    by_cases hlt : k < n
    · have hlt' : (k : Int) < n := by omega
      have hkS : k < (S.map (Value.int .i64)).length := by rw [List.length_map, ← HN.out]; exact hlt
      obtain ⟨p, o, rfl, _, e1⟩ := row_cell H.out.1 k hkS
      obtain ⟨p2, o2, rfl, _, e3⟩ := row_cell H.out.2 k hkS
      rw [List.getElem_map] at e1 e3
      generalize S[k]'(by rw [← HN.out]; exact hlt) = s at e1 e3
      clear H HN hkS
      go_wp2_with fail
      go_quiet (fail)
      go_wp2
      go_roundw
      case rel => exact ⟨k + 1, _, by omega, by go_num, rfl⟩
      case measure => simp [RowKit.intOf]; omega
    · have hlt' : ¬ (k : Int) < n := by omega
      go_wp2
      go_ret
      exact ⟨rfl, q, rfl⟩
theorem eqI_any (a : Option Addr) (n c : Nat) (b : Option Addr) (d : Nat) (S : List Int) (w : World) (h : RowAt w a (S.map (.int .i64))) (h2 : RowAt w b (S.map (.int .i64))) (hn : n = S.length) (hb : n ≤ maxLen) :
    Calls Tryz.prog 13 #[.slice a n c, .slice b n d] w (OutYes w) := by
  refine (eqI_q a n c b d S w h h2 hn hb).mono ?_
  rintro _ w' ⟨rfl, q, rfl⟩
  exact ⟨rfl, below_drewN (Below.refl _ _) q⟩

theorem AnsAt.drop {w : World} {b o n : Nat} {L : List Nx} (h : AnsAt w (some ⟨b, o, none⟩) n L) (j : Nat) (hj : j ≤ n) : AnsAt w (some ⟨b, o + j * 5, none⟩) (n - j) (L.drop j) := by
  refine ⟨by rw [List.length_drop, h.sn], by have := h.nb; omega, fun i v hv => ?_, fun q hq => h.ok q (List.mem_of_mem_drop hq)⟩
  have e : nxV L = nxV (L.take j) ++ nxV (L.drop j) := by rw [← nxV_app, List.take_append_drop]
  have hl : (nxV (L.take j)).length = j * 5 := by rw [nxV_len, List.length_take, ← h.sn, Nat.min_eq_left hj]
  have hv2 : (nxV L)[j * 5 + i]? = some v := by rw [e, List.getElem?_append_right (by omega), hl, Nat.add_sub_cancel_left]; exact hv
  obtain ⟨b2, o2, e2, hb, c⟩ := h.row (j * 5 + i) v hv2
  cases e2
  exact ⟨b, o + j * 5, rfl, hb, by rw [Nat.add_assoc]; exact c⟩
section
variable {all : List (List UInt8)} {A : Ar}
end
end Go.Proofs.YtahoagbaadnihabGreatDoor

/- Rows of numbers that are put together, devices that are the same; a scrub in two steps, purely. -/
namespace Go.Proofs.YtahoagbaadnihabGreatDoor
open Go.RowKit Go.Lib

theorem intsV_app (L M : List Int) : intsV (L ++ M) = intsV L ++ intsV M := List.map_append
theorem ints_src {w : World} {a : Option Addr} {n : Nat} {L : List Int} (h : IntsAt w a n L) : L = [] ∨ ∃ ad, a = some ad ∧ ∀ j u, (intsV L)[j]? = some u → w.cell? (ad.add j) = some u := by
  cases L with
  | nil => exact .inl rfl
  | cons q r =>
    right
    obtain ⟨b, o, e, _, _⟩ := h.R 0 (.int .i64 q) rfl
    refine ⟨_, e, fun j u hj => ?_⟩
    obtain ⟨b2, o2, e2, _, c⟩ := h.R j u hj
    rw [e] at e2
    cases e2
    rw [Addr.add_lit]
    exact c
theorem ownsI_row {w : World} {base : Nat} {a : Option Addr} {n c : Nat} {L : List Int} (h : ownsI w base (.slice a n c) L) (hL : L.length ≤ 100000) : IntsAt w a n L := by
  rcases h.2 with ⟨e, hn⟩ | ⟨g, cap, cur, e, _⟩
  · cases e
    have : L = [] := List.eq_nil_of_length_eq_zero hn
    subst this
    exact intsAt_none _ _
  · cases e
    refine ⟨rfl, by unfold maxLen; omega, ?_⟩
    exact (own_row h).1.row
/-- append of numbers. -/
theorem run_appendIs {w : World} {base : Nat} {v : Value} {L : List Int} (ty : TypeId) (H : ownsI w base v L) (M : List Int) (x : Option Addr) (c2 : Nat) (hx : M = [] ∨ ∃ ad, x = some ad ∧ ∀ j u, (intsV M)[j]? = some u → w.cell? (ad.add j) = some u) (hb : L.length + M.length ≤ 100000) (hbase : base ≤ w.heap.size) :
    ∃ a' n' c' w', (Builtin.append_ #[40, 40] ty #[v, .slice x M.length c2]).run Tryz.prog w = .ok (.slice a' n' c') w' ∧ ownsI w' base (.slice a' n' c') (L ++ M) ∧ w.grownBy w' v.ownBlock := by
  obtain ⟨i0, hi, hz0, hz1, hz2⟩ := info_parts info_int
  by_cases h0 : M = []
  · subst h0
    have hv : ∃ a' n' c', v = .slice a' n' c' ∧ n' = L.length ∧ n' ≤ c' := by
      rcases H.2 with ⟨e, hn⟩ | ⟨g, cap, cur, e, _, _, hnc, _⟩
      · exact ⟨none, 0, 0, e, hn.symm, Nat.le_refl _⟩
      · exact ⟨_, _, _, e, rfl, hnc⟩
    obtain ⟨a', n', c', rfl, hn, hle⟩ := hv
    refine ⟨a', n', c', w, ?_, by simpa using H, ⟨rfl, rfl, rfl, Nat.le_refl _, fun _ _ _ => rfl⟩⟩
    have hu := Tryz.underlying40
    cases x <;> cases a' <;> simp [Builtin.append_, run_underlying hu, sizeOf, typeInfo, hi, Builtin.lenOf, hle, Builtin.firstCells, loadCells, loadCellsFrom, storeCells]
  · obtain ⟨ad, rfl, hnews⟩ := hx.resolve_left h0
    obtain ⟨v', w', hr, ho, hg, hn⟩ := run_append_own (P := Tryz.prog) w base 40 ty 3 i0 _ 1 8 Tryz.underlying40 hi hz0 hz1 hz2 rfl (by decide) v L.length (intsV L) H ad M.length c2 (intsV M) (by rw [intsV_length, Nat.mul_one]) hnews (oneCell_ints M) (by unfold maxLen; omega) (by omega) hbase
    have ho' : w'.ownsRow base 3 1 v' (L ++ M).length (intsV (L ++ M)) := by rw [intsV_app, List.length_append]; exact ho
    have hM : 0 < M.length := List.length_pos_iff.2 h0
    obtain ⟨g, cap, rfl, hgb⟩ := owns_form ho' (by rw [List.length_append]; omega)
    exact ⟨_, _, _, w', hr, ho', hg⟩
theorem wpList_appendIs (w : World) {ops : Array Oper} {rest : List Oper} {o : Oper} {a : Act} {Q : Exit → Act → World → Prop} (hgd : o.guard = none) (s x : Operand)
    (ho : o.op = .call { callee := .builtin .append, args := #[s, x], argTypes := #[40, 40] })
    (base : Nat) (v : Value) (L M : List Int) (hs : a.eval s = v) (H : ownsI w base v L) (xa : Option Addr) (n2 c2 : Nat) (hx : a.eval x = .slice xa n2 c2) (hn : n2 = M.length) (hc : M = [] ∨ ∃ ad, xa = some ad ∧ ∀ j u, (intsV M)[j]? = some u → w.cell? (ad.add j) = some u) (hb : L.length + M.length ≤ 100000) (hbase : base ≤ w.heap.size)
    (h : ∀ a' n' c' w', ownsI w' base (.slice a' n' c') (L ++ M) → w.grownBy w' v.ownBlock → wpList Tryz.prog ops Q rest (a.put o.dst (.slice a' n' c')) w') :
    wpList Tryz.prog ops Q (o :: rest) a w := by
  subst hn
  obtain ⟨a', n', c', w', hr, h2, h3⟩ := run_appendIs (ty := o.type) H M xa c2 hc hb hbase
  refine wpList_plain hgd fun K hK => ?_
  unfold Oper.wp execOp
  simp only [ho, resolve, invoke, builtin, Sem.run_bind, Sem.run_pure, Result.andThen_ok, List.map_toArray, List.map_cons, List.map_nil, hs, hx, hr]
  exact hK _ _ (h a' n' c' w' h2 h3)
/-- .. as one step of a region that draws its order. -/
theorem step_appendIs {ops : Array Oper} {o : Oper} {a : Act} {w : World} {K : Act → World → Prop} {Q : Exit → Act → World → Prop} {E : Prop}
    (hw : Region.wanted o (yielded ops a.tmps) = true) (sl x : Operand) (hop : o.op = Op.call { callee := Callee.builtin Builtin.append, args := #[sl, x], argTypes := #[40, 40] })
    (base : Nat) (v : Value) (L M : List Int) (hs : a.eval sl = v) (H : ownsI w base v L) (xa : Option Addr) (n2 c2 : Nat) (hx : a.eval x = .slice xa n2 c2) (hn : n2 = M.length) (hc : M = [] ∨ ∃ ad, xa = some ad ∧ ∀ j u, (intsV M)[j]? = some u → w.cell? (ad.add j) = some u) (hb : L.length + M.length ≤ 100000) (hbase : base ≤ w.heap.size)
    (hK : ∀ a' n' c' w', ownsI w' base (.slice a' n' c') (L ++ M) → w.grownBy w' v.ownBlock → K (a.put o.dst (.slice a' n' c')) w') :
    if Region.wanted o (yielded ops a.tmps) = true then Oper.wp Tryz.prog o a w K Q else E := by
  rw [if_pos hw]
  subst hn
  obtain ⟨a', n', c', w', hr, h2, h3⟩ := run_appendIs (ty := o.type) H M xa c2 hc hb hbase
  unfold Oper.wp
  simp [execOp, hop, resolve, invoke, builtin, hs, hx, hr, Result.andThen]
  exact hK _ _ _ w' h2 h3
/-- Numbers that come out: a row of the call's own. -/
def OutI (w : World) (L : List Int) (e : Ending) (w' : World) : Prop := ∃ a n c, e = .returned (.slice a n c) ∧ ownsI w' w.heap.size (.slice a n c) L ∧ Below w.heap.size w w'
set_option maxHeartbeats 1600000 in
set_option maxRecDepth 4000 in
theorem clonei_any (w : World) (a : Option Addr) (n c : Nat) (L : List Int) (H : IntsAt w a n L) (hL : L.length ≤ 1000) :
    Calls Tryz.prog 14 #[.slice a n c] w (OutI w L) := by
  have q22 : ∀ (w : World) (a : Option Addr) (n c n' c' : Nat), (binOp .eql 40 (.slice a n c) (.slice none n' c')).run Tryz.prog w = .ok (.bool a.isNone) w := fun w a n c n' c' => Lib.run_eql_slice_nil w _ _ a n c n' c' Tryz.underlying40
  cases a with
  | none =>
    have hl : L = [] := by
      rcases ints_src H with e | ⟨_, e, _⟩
      · exact e
      · cases e
    subst hl
    have hn : n = 0 := H.sn
    subst hn
    have FIN : Hid (OutI w [] (.returned (.slice none 0 0)) w) := ⟨none, 0, 0, rfl, ownsI_nil _ _, Below.refl _ _⟩
    clear H hL
    go_enter Tryz.func14, Tryz.ntmps14
    go_wp2
    go_ret
    exact FIN.out
  | some ad =>
    obtain ⟨W, hW⟩ : ∃ W, W = w.alloc (.cells #[] 3) := ⟨_, rfl⟩
    have hB : Below w.heap.size w W := by rw [hW]; exact (Below.refl _ w).alloc (Nat.le_refl _) _
    have hI : ownsI W w.heap.size (.slice (some ⟨w.heap.size, 0, none⟩) 0 0) [] := by
      rw [hW]
      exact ⟨by simp [intsV], .inr ⟨w.heap.size, 0, #[], rfl, Nat.le_refl _, heap_alloc_new w _, Nat.zero_le _, by unfold maxLen; omega, rfl, by simp [intsV]⟩⟩
    have S := hid (And.intro hB (And.intro hI (ints_src (H.below hB))))
    have hsn := H.sn
    clear H hB hI
    go_enter Tryz.func14, Tryz.ntmps14
    go_wp2_with (at_builtin; (refine wpList_appendIs _ rfl (.tmp 5) (.tmp 6) rfl w.heap.size (.slice (some ⟨w.heap.size, 0, none⟩) 0 0) [] L rfl (by rw [← hW]; exact S.out.2.1) (some ad) n c rfl hsn (by rw [← hW]; exact S.out.2.2) (by simp; omega) (by rw [← hW]; exact S.out.1.size) ?_; intro a3 n3 c3 w3 hI3 hg3; rw [← hW] at hg3; (have FIN := hid (show OutI w L (.returned (.slice a3 n3 c3)) w3 from ⟨a3, n3, c3, rfl, hI3, S.out.1.grown hg3 S.out.1.size (fun b e => (World.ownsRow.lt S.out.2.1 b e).1)⟩)); clear hI3 hg3))
    go_ret
    exact FIN.out

set_option maxHeartbeats 1600000 in
set_option maxRecDepth 4000 in
theorem samedv_any (a : Option Addr) (n c : Nat) (a' : Option Addr) (m c' : Nat) (b : Option Addr) (d : Nat) (b' : Option Addr) (d' : Nat) (D : Dv) (w : World) (h : DevAt w a n a' m D) (h2 : DevAt w b n b' m D) :
    Calls Tryz.prog 27 #[.agg #[.slice a n c, .slice a' m c'], .agg #[.slice b n d, .slice b' m d']] w (OutYes w) := by
  obtain ⟨W, hW⟩ : ∃ W, W = (w.alloc (.cells #[.slice a n c, .slice a' m c'] 65)).alloc (.cells #[.slice b n d, .slice b' m d'] 65) := ⟨_, rfl⟩
  have hB : Below w.heap.size w W := by rw [hW]; go_grown
  have c1 : W.cell? ⟨w.heap.size, 0, none⟩ = some (.slice a n c) := by rw [hW]; simp
  have c2 : W.cell? ⟨w.heap.size, 1, none⟩ = some (.slice a' m c') := by rw [hW]; simp
  have c3 : W.cell? ⟨w.heap.size + 1, 0, none⟩ = some (.slice b n d) := by rw [hW]; simp
  have c4 : W.cell? ⟨w.heap.size + 1, 1, none⟩ = some (.slice b' m d') := by rw [hW]; simp
  have C1 := hid (eqT_q a n c b d D.1 W (h.S.below hB) (h2.S.below hB) h.sn h.nb)
  have C2 := hid (fun q => eqB_q a' m c' b' d' D.2 (W.drewN q) ((h.L.below hB).below (below_drewN (Below.refl _ _) q)) ((h2.L.below hB).below (below_drewN (Below.refl _ _) q)) h.sm h.mb)
  have HB := hid hB
  clear h h2 hB
  go_enter Tryz.func27, Tryz.ntmps27
  go_upto_region 1 with fail
  rw [← hW]
  clear hW
  go_wp2_with fail
  refine C1.out.mono ?_
  rintro _ _ ⟨rfl, q, rfl⟩
  go_wp2_with fail
  refine (C2.out q).mono ?_
  rintro _ _ ⟨rfl, q2, rfl⟩
  have FIN := hid (bel3 HB.out (below_drewN (Below.refl W.heap.size W) (q + q2)))
  clear C1 C2 HB c1 c2 c3 c4
  go_wp2
  go_ret
  exact ⟨rfl, FIN.out⟩
set_option maxHeartbeats 3200000 in
set_option maxRecDepth 8000 in
theorem eqd_any (a : Option Addr) (n c : Nat) (b : Option Addr) (d : Nat) (A : Ar) (g : Nat) (lb : Array Value) (w : World) (H : ArrAt w a n A) (H2 : ArrAt w b n A) (hn : n ≤ 3) (eg : ∀ args w, (callFunc g args).run Tryz.prog w = .ok (.enter g args) w)
    (hc : ∀ (a : Option Addr) (n c : Nat) (a' : Option Addr) (m c' : Nat) (b : Option Addr) (d : Nat) (b' : Option Addr) (d' : Nat) (D : Dv) wx, DevAt wx a n a' m D → DevAt wx b n b' m D → Calls Tryz.prog g (#[.agg #[.slice a n c, .slice a' m c'], .agg #[.slice b n d, .slice b' m d']] ++ lb) wx (OutYes wx)) :
    Calls Tryz.prog 26 #[.slice a n c, .slice b n d, .func (.func g) #[] lb] w (OutYes w) := by
  have n1 : ((n : Int) != n) = false := bne_self_eq_false _
  have CT := hid hc
  have HH := hid (And.intro H H2)
  clear H H2 hc
  go_enter Tryz.func26, Tryz.ntmps26
  go_wp2_with fail
  clear n1
  go_loopw [17] (fun i wr => ∃ k : Nat, k ≤ n ∧ i = .int .i64 k ∧ Hid (Below w.heap.size w wr)) (fun i _ => n - (RowKit.intOf i).toNat)
  case atStart => exact ⟨0, Nat.zero_le _, rfl, Below.refl _ _⟩
  case round =>
    obtain ⟨k, hk, rfl, G⟩ := hrel
    by_cases hlt : k < n
    · have hlt' : (k : Int) < n := by omega
      rcases HH.out.1.below G.out with ⟨e0, _⟩ | ⟨b1, o1, h1, rfl, X1⟩
      · omega
      have x0 := X1.c0 k hlt
      have x1 := X1.c1 k hlt
      have d1 := X1.dv k hlt
      have l1 := X1.lt
      generalize h1 k = t1 at x0 x1 d1
      obtain ⟨xa, xn, xc, ya, yn, yc⟩ := t1
      dsimp only at x0 x1 d1
      obtain ⟨V1, hV1⟩ : ∃ V1, V1 = wr.alloc (.cells #[.slice xa xn xc, .slice ya yn yc] 65) := ⟨_, rfl⟩
      have g1 : Below wr.heap.size wr V1 := by rw [hV1]; exact (Below.refl _ wr).alloc (Nat.le_refl _) _
      rcases HH.out.2.below (bel3 G.out g1) with ⟨e0, _⟩ | ⟨b2, o2, h2, rfl, X2⟩
      · omega
      have y0 := X2.c0 k hlt
      have y1 := X2.c1 k hlt
      have d2 := X2.dv k hlt
      have l2 := X2.lt
      generalize h2 k = t2 at y0 y1 d2
      obtain ⟨ua, un, uc, va, vn, vc⟩ := t2
      dsimp only at y0 y1 d2
      have e1 : un = xn := by rw [d2.sn, d1.sn]
      have e2 : vn = yn := by rw [d2.sm, d1.sm]
      subst e1
      subst e2
      obtain ⟨V2, hV2⟩ : ∃ V2, V2 = V1.alloc (.cells #[.slice ua un uc, .slice va vn vc] 65) := ⟨_, rfl⟩
      have g2 : Below V1.heap.size V1 V2 := by rw [hV2]; exact (Below.refl _ V1).alloc (Nat.le_refl _) _
      have C1 := hid (CT.out xa un xc ya vn yc ua uc va vc (dev A k) V2 ((d1.below g1).below g2) (d2.below g2))
      have P0 : Own V2 wr.heap.size 65 [.slice xa un xc, .slice ya vn yc] := by
        have := Own.made wr 65 [.slice xa un xc, .slice ya vn yc]
        rw [show wr.alloc (.cells [Value.slice xa un xc, .slice ya vn yc].toArray 65) = V1 from hV1.symm] at this
        exact this.below' g2
      have Q0 : Own V2 V1.heap.size 65 [.slice ua un uc, .slice va vn vc] := by
        have := Own.made V1 65 [.slice ua un uc, .slice va vn vc]
        rw [show V1.alloc (.cells [Value.slice ua un uc, .slice va vn vc].toArray 65) = V2 from hV2.symm] at this
        exact this
      have p0 := P0.cell (i := 0) rfl
      have p1 := P0.cell (i := 1) rfl
      have q0 := Q0.cell (i := 0) rfl
      have q1 := Q0.cell (i := 1) rfl
      have G2 := hid (bel3 (bel3 G.out g1) g2)
      clear d1 d2 X1 X2 g1 g2 P0 Q0 G CT HH
      go_upto_region 6 with fail
      rw [← hV1]
      clear hV1 x0 x1
      go_upto_region 7 with fail
      rw [← hV2]
      clear hV2 y0 y1
      go_wp2_with fail
      go_at_fn g
      refine C1.out.mono ?_
      rintro _ w5 ⟨rfl, g5⟩
      have GR := hid (bel3 G2.out g5)
      clear C1 G2 g5 p0 p1 q0 q1
      go_wp2
      go_roundw
      case rel => exact ⟨k + 1, by omega, by go_num, GR⟩
      case measure => simp [RowKit.intOf]; omega
    · have hlt' : ¬ (k : Int) < n := by omega
      have FIN : Hid (OutYes w (.returned (.bool true)) wr) := ⟨rfl, G.out⟩
      clear G
      go_wp2
      go_ret
      exact FIN.out
set_option maxHeartbeats 1600000 in
set_option maxRecDepth 4000 in
theorem topsame_any (a : Option Addr) (n c : Nat) (b : Option Addr) (d : Nat) (A : Ar) (w : World) (H : ArrAt w a n A) (H2 : ArrAt w b n A) (hn : n ≤ 3) :
    Calls Tryz.prog 12 #[.agg #[.slice a n c], .agg #[.slice b n d]] w (OutYes w) := by
  obtain ⟨W, hW⟩ : ∃ W, W = (w.alloc (.cells #[.slice a n c] 35)).alloc (.cells #[.slice b n d] 35) := ⟨_, rfl⟩
  have hB : Below w.heap.size w W := by rw [hW]; go_grown
  have c1 : W.cell? ⟨w.heap.size, 0, none⟩ = some (.slice a n c) := by rw [hW]; simp
  have c3 : W.cell? ⟨w.heap.size + 1, 0, none⟩ = some (.slice b n d) := by rw [hW]; simp
  have C1 := hid (eqd_any a n c b d A 27 #[] W (H.below hB) (H2.below hB) hn (enters_of Tryz.func27 (by kernel_rfl) rfl) (fun a n c a' m c' b d b' d' D wx h h2 => samedv_any a n c a' m c' b d b' d' D wx h h2))
  have HB := hid hB
  clear H H2 hB
  go_enter Tryz.func12, Tryz.ntmps12
  go_upto_region 1 with fail
  rw [← hW]
  clear hW
  go_wp2_with fail
  refine C1.out.mono ?_
  rintro _ w5 ⟨rfl, g5⟩
  have FIN := hid (bel3 HB.out g5)
  clear C1 HB g5 c1 c3
  go_wp2
  go_ret
  exact ⟨rfl, FIN.out⟩

theorem an1_end (P : List An) (x : An) (r : List An) (k : Nat) (hk : k = P.length) : an1 (P ++ x :: r) k = x := by
  rw [hk, an1, List.getElem?_append_right (Nat.le_refl _), Nat.sub_self]
  rfl
theorem gone_le (n : Nat) (f : Nat → Bool) : (goneOf n f).length ≤ n := by
  unfold goneOf
  exact Nat.le_trans (List.length_filter_le _ _) (by rw [List.length_range]; exact Nat.le_refl _)
theorem steps_told (Gs : List (List Fi)) (hc : Chain 0 Gs) (ht : tot Gs ≤ 8) (K : Nat) (hK : K < 3) (E : Nat) (hE : E < 3) (hne : E ≠ K) (H1 H2 : List Raw4) (m : Nat) (a b : Nat) (hab : a + b = 48) (l l' : List Ac)
    (hl : l = (Gs.map addAc ++ ((hurtsOf H1 K 48 m).map hurtAc ++ (hurtsOf H2 E 48 m).map hurtAc)) ++ [scrubAc 48])
    (hl' : l' = (Gs.map addAc ++ ((hurtsOf H1 K 48 m).map hurtAc ++ (hurtsOf H2 E 48 m).map hurtAc)) ++ [scrubAc a, scrubAc b]) :
    (run48 l).1.A = (run48 l').1.A ∧ ∃ p q r, an1 (run48 l).2 (l.length - 1) = p ∧ an1 (run48 l').2 (l'.length - 2) = q ∧ an1 (run48 l').2 (l'.length - 1) = r ∧ p.count = q.count + r.count ∧ (0 ≤ q.count ∧ q.count ≤ 144) ∧ (0 ≤ r.count ∧ r.count ≤ 144) ∧ p.gone = q.gone ++ r.gone ∧ q.gone.length ≤ 48 ∧ r.gone.length ≤ 48 := by
  obtain ⟨A2, T, cs, all', C', D', e, w, l1, h, l3⟩ := two_hurts Gs hc ht K hK E hE hne H1 H2 m
  obtain ⟨pre, hpre⟩ : ∃ pre, pre = cs.map anE ++ ((hurtsOf H1 K 48 m).map (fun _ => anE 0) ++ (hurtsOf H2 E 48 m).map (fun _ => anE 0)) := ⟨_, rfl⟩
  rw [← hpre] at e
  have hmn : many A2 = 48 := w.mny.trans l3
  have t1 := (scrub_tru w.tru 0 0 (by rw [l3]; decide) a).1
  rw [l3] at t1
  have hx : actS ⟨A2, 0, 0⟩ (scrubAc 48) = (⟨(scN 48 (scBegin A2 0 0) 48).A, (scN 48 (scBegin A2 0 0) 48).nx, (scN 48 (scBegin A2 0 0) 48).rd⟩, ⟨0, [], [], (scN 48 (scBegin A2 0 0) 48).ct, goneOf 48 (scN 48 (scBegin A2 0 0) 48).lo⟩) := by
    have := scrub_act A2 0 0 48 w.may (by rw [hmn]; decide) (by omega) (by omega) (by omega)
    rw [hmn] at this
    exact this
  have hxa : actS ⟨A2, 0, 0⟩ (scrubAc a) = (⟨(scN 48 (scBegin A2 0 0) a).A, (scN 48 (scBegin A2 0 0) a).nx, (scN 48 (scBegin A2 0 0) a).rd⟩, ⟨0, [], [], (scN 48 (scBegin A2 0 0) a).ct, goneOf 48 (scN 48 (scBegin A2 0 0) a).lo⟩) := by
    have := scrub_act A2 0 0 a w.may (by rw [hmn]; decide) (by omega) (by omega) (by omega)
    rw [hmn] at this
    exact this
  have nxs := scN_nx 48 A2 0 0 (by decide) a
  have rds := scN_rd 48 A2 0 0 (by decide) a
  obtain ⟨g1, g2, g3⟩ := gone_two 48 A2 0 (by decide) a b hab
  have ca := scN_ct 48 A2 0 0 a
  obtain ⟨s, hs⟩ : ∃ s, s = scN 48 (scBegin A2 0 0) a := ⟨_, rfl⟩
  rw [← hs] at t1 hxa nxs rds g1 g2 g3 ca
  have hsm : many s.A = 48 := t1.mny.trans l3
  have hsx : s.nx < 48 := by rw [nxs]; unfold nxAt; exact Nat.mod_lt _ (by decide)
  have hxb : actS ⟨s.A, s.nx, s.rd⟩ (scrubAc b) = (⟨(scN 48 (scBegin s.A s.nx s.rd) b).A, (scN 48 (scBegin s.A s.nx s.rd) b).nx, (scN 48 (scBegin s.A s.nx s.rd) b).rd⟩, ⟨0, [], [], (scN 48 (scBegin s.A s.nx s.rd) b).ct, goneOf 48 (scN 48 (scBegin s.A s.nx s.rd) b).lo⟩) := by
    have := scrub_act s.A s.nx s.rd b t1.may (by rw [hsm]; exact hsx) (by rw [rds]; omega) (by rw [rds]; omega) (by omega)
    rw [hsm] at this
    exact this
  have cb := scN_ct 48 s.A s.nx s.rd b
  obtain ⟨t, ht0⟩ : ∃ t, t = scN 48 (scBegin s.A s.nx s.rd) b := ⟨_, rfl⟩
  obtain ⟨u, hu0⟩ : ∃ u, u = scN 48 (scBegin A2 0 0) 48 := ⟨_, rfl⟩
  rw [← ht0] at hxb g1 g2 g3 cb
  rw [← hu0] at hx g1 g2 g3
  have eL : run48 l = (⟨u.A, u.nx, u.rd⟩, pre ++ [⟨0, [], [], u.ct, goneOf 48 u.lo⟩]) := by
    rw [hl, run48, run_app]
    rw [run48] at e
    rw [e]
    dsimp only
    rw [runS, hx]
    rfl
  have eL' : run48 l' = (⟨t.A, t.nx, t.rd⟩, pre ++ [⟨0, [], [], s.ct, goneOf 48 s.lo⟩, ⟨0, [], [], t.ct, goneOf 48 t.lo⟩]) := by
    rw [hl', run48, run_app]
    rw [run48] at e
    rw [e]
    dsimp only
    rw [runS, hxa]
    dsimp only
    rw [runS, hxb]
    rfl
  have n1 := run48_len l
  have n2 := run48_len l'
  rw [eL] at n1 ⊢
  rw [eL'] at n2 ⊢
  dsimp only at n1 n2 ⊢
  rw [List.length_append] at n1 n2
  simp only [List.length_cons, List.length_nil] at n1 n2
  refine ⟨g3, ⟨0, [], [], u.ct, goneOf 48 u.lo⟩, ⟨0, [], [], s.ct, goneOf 48 s.lo⟩, ⟨0, [], [], t.ct, goneOf 48 t.lo⟩, an1_end _ _ _ _ (by omega), an1_end _ _ _ _ (by omega), ?_, g2, ⟨ca.1, Int.le_trans ca.2 (by omega)⟩, ⟨cb.1, Int.le_trans cb.2 (by omega)⟩, g1, gone_le 48 _, gone_le 48 _⟩
  rw [show pre ++ [(⟨0, [], [], s.ct, goneOf 48 s.lo⟩ : An), ⟨0, [], [], t.ct, goneOf 48 t.lo⟩] = (pre ++ [⟨0, [], [], s.ct, goneOf 48 s.lo⟩]) ++ [⟨0, [], [], t.ct, goneOf 48 t.lo⟩] by simp]
  exact an1_end _ _ _ _ (by rw [List.length_append]; simp only [List.length_cons, List.length_nil]; omega)

theorem AnsAt.take {w : World} {a : Option Addr} {n : Nat} {L : List Nx} (h : AnsAt w a n L) (k : Nat) (hk : k ≤ n) : AnsAt w a k (L.take k) := by
  refine ⟨by rw [List.length_take, ← h.sn, Nat.min_eq_left hk], Nat.le_trans hk h.nb, fun i v hv => ?_, fun q hq => h.ok q (List.mem_of_mem_take hq)⟩
  have e : nxV L = nxV (L.take k) ++ nxV (L.drop k) := by rw [← nxV_app, List.take_append_drop]
  have hi : i < (nxV (L.take k)).length := (List.getElem?_eq_some_iff.1 hv).1
  exact h.row i v (by rw [e, List.getElem?_append_left hi]; exact hv)
theorem ActAt.take {w : World} {a : Option Addr} {n : Nat} {L : List Ax} (h : ActAt w a n L) (k : Nat) (hk : k ≤ n) : ActAt w a k (L.take k) := by
  refine ⟨by rw [List.length_take, ← h.sn, Nat.min_eq_left hk], Nat.le_trans hk h.nb, fun i v hv => ?_, fun q hq => h.ok q (List.mem_of_mem_take hq)⟩
  have e : axV L = axV (L.take k) ++ axV (L.drop k) := by rw [← axV_app, List.take_append_drop]
  have hi : i < (axV (L.take k)).length := (List.getElem?_eq_some_iff.1 hv).1
  exact h.row i v (by rw [e, List.getElem?_append_left hi]; exact hv)
end Go.Proofs.YtahoagbaadnihabGreatDoor
