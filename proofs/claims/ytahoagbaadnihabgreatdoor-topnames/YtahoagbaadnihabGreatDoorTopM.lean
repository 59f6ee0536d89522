/- Joined texts: TopCall, TopTold, TopOneM, TopMany, TopTwo, TopBoth, TopEq, TopAbN. -/
import Derived.Test.YtahoagbaadnihabGreatDoorTopK
import Derived.Test.YtahoagbaadnihabGreatDoorShlDR
import Derived.Test.YtahoagbaadnihabGreatDoorTopP
import Derived.Deep.RegionWith
import Derived.Deep.RegionHeld3
import Derived.Handy
import Derived.Deep.QuietTactic
import Derived.BigQuiet
import Derived.Shelf.Abstract
import Derived.Test.YtahoagbaadnihabGreatDoorArcGN
import Derived.Test.YtahoagbaadnihabGreatDoorShelf
import Derived.Sort.OwnSorted
/- arrastop.run: acts put together and done over a new archive. -/
namespace Go.Proofs.YtahoagbaadnihabGreatDoor
open Go.RowKit Go.Lib

/-- What the acts answer over a new archive of 48 sectors. -/
def run48 (l : List Ac) : Ha × List An := runS ⟨(arNew 48).1, 0, 0⟩ l
theorem arnew48 : (arNew 48).2 = 0 := congrArg Prod.snd (arc_new 48 (by omega) (by omega) (by omega) 0 (by omega)).1
theorem scr48 (l : List Ac) (h : l.length ≤ 200) : scrS 48 l = ((run48 l).2, (run48 l).1.A, 0) := by
  rw [scrS, if_pos arnew48, if_neg (by omega)]
  rfl
theorem run48_may (l : List Ac) : arMay (run48 l).1.A = true := run_may l _ (arnew_may 48 arnew48)
theorem run48_len (l : List Ac) : (run48 l).2.length = l.length := run_len _ l
/-- Answers and an array that come out. -/
def OutTr (w : World) (l : List Ac) (e : Ending) (w' : World) : Prop :=
  ∃ a n c x m d L, e = .returned (.tuple #[.slice a n c, .agg #[.slice x m d], .bool true]) ∧ (ans L = (run48 l).2 ∧ n ≤ c ∧ AnsAt w' a n L) ∧ (ArrAt w' x m (run48 l).1.A ∧ arMay (run48 l).1.A = true) ∧ Below w.heap.size w w'
theorem OutTr.drew {w w' : World} {l : List Ac} {e : Ending} (h : OutTr w l e w') : OutTr w l e w'.drew := by
  obtain ⟨a, n, c, x, m, d, L, h1, ⟨h2, h3, h4⟩, ⟨h5, h6⟩, h7⟩ := h
  exact ⟨a, n, c, x, m, d, L, h1, ⟨h2, h3, h4.below (Below.refl _ _).drew⟩, ⟨h5.below (Below.refl _ _).drew, h6⟩, h7.drew⟩
theorem ans_len {L : List Nx} {l : List Ac} (h : ans L = (run48 l).2) : L.length = l.length := by
  have := congrArg List.length h
  rw [run48_len, ans, List.length_map] at this
  exact this
theorem tr_out {w W w1 : World} {l : List Ac} {a x : Option Addr} {n c m d : Nat} {L : List Nx} (hl : l.length ≤ 200) (hW : Below w.heap.size w W) (hB : Below W.heap.size W w1) (hr : Own W w.heap.size 35 [.slice none 0 0]) (h2 : ans L = (run48 l).2) (h3 : AnsI w1 W.heap.size (.slice a n c) L) (h4 : ArrAt w1 x m (run48 l).1.A) :
    OutTr w l (.returned (.tuple #[.slice a n c, .agg #[.slice x m d], .bool true])) (w1.setCell ⟨w.heap.size, 0, none⟩ (.slice x m d)) := by
  have hlt := hr.lt
  have c1 := (Chg.refl (fun j => j = w.heap.size) w1).set (p := w.heap.size) rfl 0 (.slice x m d)
  have hL := ans_len h2
  have hm := run48_may l
  obtain ⟨k1, k2⟩ := (h3.chg c1 (by omega)).at (by unfold maxLen; omega)
  exact ⟨a, n, c, x, m, d, L, rfl, ⟨h2, k1, k2⟩, ⟨h4.keepz hm (keepz_set ((hr.below' hB).cell (i := 0) rfl) (.inr (.inr rfl)) _), hm⟩, (bel3 hW hB).setCell (Nat.le_refl _) _⟩
set_option maxHeartbeats 3200000 in
set_option maxRecDepth 8000 in
theorem trun_any (a : Option Addr) (n c : Nat) (P : List Part) (w : World) (H : RowAt w a (P.map partV)) (hn : n = P.length) (hp : P.length ≤ 100) (hok : ∀ q ∈ P, PartOk w q) (hm : cnt P ≤ 200) :
    Calls Tryz.prog 11 #[.slice a n c] w (OutTr w (partL P)) := by
  obtain ⟨W, hW⟩ : ∃ W, W = w.alloc (.cells #[.slice none 0 0] 35) := ⟨_, rfl⟩
  have hB : Below w.heap.size w W := by rw [hW]; go_grown
  have rb : Own W w.heap.size 35 [.slice none 0 0] := by rw [hW]; exact Own.made w 35 [.slice none 0 0]
  have C1 := hid (concat_any a n c P W (H.below hB) hn hp (fun q hq => (hok q hq).below hB) (by omega))
  have HH := hid (And.intro hB (And.intro rb (show (partL P).length ≤ 200 from hm)))
  clear H hn hp hok hm hB rb
  generalize partL P = l at C1 HH ⊢
  obtain ⟨post, hpost⟩ : ∃ post, post = OutTr w l := ⟨_, rfl⟩
  rw [← hpost]
  have HP := hid hpost
  clear hpost
  go_enter Tryz.func11, Tryz.ntmps11
  go_upto_region 1 with fail
  rw [← hW]
  clear hW
  go_wp2_with fail
  refine C1.out.mono ?_
  rintro _ w1 ⟨xa, xn, xc, L, rfl, hL, hl, g1⟩
  have hLl : L.length ≤ 200 := by rw [← acs_len, hl]; exact HH.out.2.2
  have hXn := (hL.at (by unfold maxLen; omega)).2.sn
  have C2 := hid (srun_any 48 xa xn xc L w1 (hL.at (by unfold maxLen; omega)).2)
  rw [hl, scr48 l HH.out.2.2] at C2
  have HX := hid (And.intro hXn (And.intro (show L.length = l.length by rw [← hl, acs_len]) g1))
  clear hL hl hLl g1 C1 hXn
  go_wp2_with fail
  refine C2.out.mono ?_
  rintro _ w2 ⟨ya, yn, yc, za, zm, zc, M, rfl, ⟨h2, h3⟩, h4, g2⟩
  have hML : xn = yn := by
    have e1 := ans_len h2
    have e2 := (h3.at (by unfold maxLen; have := HH.out.2.2; omega)).2.sn
    have e3 := HX.out.1
    have e4 := HX.out.2.1
    omega
  have bA : Below w2.heap.size w2 (w2.alloc (.cells #[.slice za zm zc] 35)) := (Below.refl _ w2).alloc (Nat.le_refl _) _
  have K := hid (tr_out (d := zc) HH.out.2.2 HH.out.1 (bel3 HX.out.2.2 (bel3 g2 bA)) HH.out.2.1 h2 ((h3.below bA).less (Nat.le_trans (Nat.le_refl _) HX.out.2.2.size)) (h4.below bA))
  have q0 := (HH.out.2.1.below' (bel3 HX.out.2.2 (bel3 g2 bA))).cell (i := 0) rfl
  have qf := (HH.out.2.1.below' (bel3 HX.out.2.2 (bel3 g2 bA))).free 0
  have s0 := (Own.made w2 35 [.slice za zm zc]).cell (i := 0) rfl
  have hyn := (h3.at (by unfold maxLen; have e1 := ans_len h2; have := HH.out.2.2; omega)).1
  subst hML
  clear h2 h3 h4 g2 bA C2 HX
  go_upto_region 3 with fail
  obtain ⟨V, hV⟩ : ∃ V, V = w2.alloc (.cells #[.slice za zm zc] 35) := ⟨_, rfl⟩
  have hV' : w2.alloc (.cells [Value.slice za zm zc].toArray 35) = V := hV.symm
  rw [hV'] at s0
  rw [← hV] at K q0 qf ⊢
  clear hV hV'
  have y0 := World.cell?_setCell_same V ⟨w.heap.size, 0, none⟩ (.slice za zm zc) q0
  go_region
  all_goals go_wp2
  all_goals refine bodyPost_ret (v := .tuple #[.slice ya xn yc, .agg #[.slice za zm zc], .bool true]) (by simp [results, Tryz.results11, go_sem, y0]) rfl ?_
  all_goals rw [HP.out]
  all_goals (first | exact K.out | exact OutTr.drew K.out)
end Go.Proofs.YtahoagbaadnihabGreatDoor

/- arrastop.told: do the last answers tell all files that were added? -/
namespace Go.Proofs.YtahoagbaadnihabGreatDoor
open Go.RowKit Go.Lib

def an1 (R : List An) (i : Nat) : An := R[i]?.getD ⟨0, [], [], 0, []⟩
theorem an1_of {L : List Nx} {i : Nat} {q : Nx} (h : L[i]? = some q) : an1 (ans L) i = q.r := by
  rw [an1, ans, List.getElem?_map, h]
  rfl
theorem tot_take : ∀ (Gs : List (List Fi)) (i : Nat), i < Gs.length → tot (Gs.take (i + 1)) = tot (Gs.take i) + (grp Gs i).length
  | [], i, h => absurd h (Nat.not_lt_zero _)
  | G :: r, 0, _ => by simp [tot, grp]
  | G :: r, i + 1, h => by
    have := tot_take r i (by simpa using h)
    have e : grp (G :: r) (i + 1) = grp r i := by simp [grp]
    rw [e, List.take_succ_cons, List.take_succ_cons]
    show G.length + tot (r.take (i + 1)) = G.length + tot (r.take i) + (grp r i).length
    rw [this]; omega
theorem tot_le : ∀ (Gs : List (List Fi)) (i : Nat), tot (Gs.take i) ≤ tot Gs
  | [], i => by simp
  | G :: r, 0 => by simp [tot]
  | G :: r, i + 1 => by
    have := tot_le r i
    rw [List.take_succ_cons]
    show G.length + tot (r.take i) ≤ G.length + tot r
    omega
theorem add_files {A : List Ax} {Gs : List (List Fi)} (h : acs A = Gs.map addAc) {i : Nat} {q : Ax} (hq : A[i]? = some q) : q.x.files = grp Gs i := by
  have e : (acs A)[i]? = some q.x := by rw [acs, List.getElem?_map, hq]; rfl
  rw [h, List.getElem?_map] at e
  rw [grp]
  cases g : Gs[i]? with
  | none => rw [g] at e; cases e
  | some G =>
    rw [g] at e
    have e' : addAc G = q.x := Option.some.inj e
    rw [← e']
    rfl
def OutYes (w : World) (e : Ending) (w' : World) : Prop := e = .returned (.bool true) ∧ Below w.heap.size w w'
end Go.Proofs.YtahoagbaadnihabGreatDoor

/- What the last answers of a script tell, purely; contracts of small pieces that the theorems of the whole share. -/
namespace Go.Proofs.YtahoagbaadnihabGreatDoor
open Go.RowKit Go.Lib

theorem an1_left {cs : List Int} {i : Nat} (r : List An) (h : i < cs.length) : (an1 (cs.map anE ++ r) i).code = cod cs i := by
  rw [an1, List.getElem?_append_left (by rw [List.length_map]; exact h), List.getElem?_map, cod]
  rw [List.getElem?_eq_getElem h]
  rfl
set_option maxHeartbeats 400000 in
theorem Picked_any (x m : Int) (w : World) (hx : i64Ok x) (hm : 0 < m ∧ m ≤ 9223372036854775807) :
    Calls Tryz.prog 10 #[.int .i64 x, .int .i64 m] w fun e w' => e = .returned (.int .i64 (pick x m)) ∧ w' = w := by
  go_enter Tryz.func10, Tryz.ntmps10
  go_wp2_with (go_at_call 24; refine (picked_gen _ _ _ hx hm).mono ?_; rintro _ w9 ⟨rfl, h9⟩; (have h8 := h9.symm); subst h8)
  go_ret
  exact ⟨rfl, rfl⟩
theorem nat_pick (x : Int) : ∃ K : Nat, pick x 3 = (K : Int) ∧ K < 3 := by
  have := pick_bd x 3 (by omega)
  exact ⟨(pick x 3).toNat, by omega, by omega⟩
theorem hurtsgo_le (d m : Int) : ∀ (l : List Raw4) (T : List Int), (hurtsGo d m l T).length ≤ l.length
  | [], _ => Nat.le_refl _
  | r :: l, T => by
    rw [hurtsGo_cons]
    have h := hurtsgo_le d m l
    split
    · have := h T; simp only [List.length_cons]; omega
    · split
      · have := h (pick r.a m :: T); simp only [List.length_cons]; omega
      · split
        · have := h T; simp only [List.length_cons]; omega
        · have := h T; simp only [List.length_cons]; omega
theorem hurts_le (l : List Raw4) (d m : Int) (most : Nat) : (hurtsOf l d m most).length ≤ most := by
  unfold hurtsOf
  refine Nat.le_trans (hurtsgo_le _ _ _ _) ?_
  rw [List.length_take]
  omega
end Go.Proofs.YtahoagbaadnihabGreatDoor

/- Lists of acts, laid as one argument of arrastop.run; a scrub between two hurts, purely. -/
namespace Go.Proofs.YtahoagbaadnihabGreatDoor
open Go.RowKit Go.Lib

theorem laid_run {w : World} (P : List Part) (hp : ∀ q ∈ P, PartOk w q) (hc : P.length ≤ 100) {l : List Ac} (hl : partL P = l) (hm : l.length ≤ 200) (n : Nat) (hn : n = P.length) :
    Calls Tryz.prog 11 #[.slice (some ⟨w.heap.size, 0, none⟩) n n] (w.alloc (.cells (P.map partV).toArray 23)) (OutTr (w.alloc (.cells (P.map partV).toArray 23)) l) := by
  have g : Below w.heap.size w (w.alloc (.cells (P.map partV).toArray 23)) := (Below.refl _ w).alloc (Nat.le_refl _) _
  rw [← hl]
  exact trun_any (some ⟨w.heap.size, 0, none⟩) n n P _ (Own.made w 23 (P.map partV)).row hn hc (fun q hq => (hp q hq).below g) (by rw [cnt, hl]; exact hm)
/-- Acts with no files, written out in place. -/
theorem acts_laid (w : World) (L : List Ac) (hf : ∀ x ∈ L, x.files = [] ∧ x.name.size ≤ maxLen) (hL : L.length ≤ 1000) :
    PartOk (w.alloc (.cells (axV (L.map fun x => ⟨x, nilS⟩)).toArray 29)) ⟨⟨some ⟨w.heap.size, 0, none⟩, L.length, L.length⟩, L.map fun x => ⟨x, nilS⟩⟩ := by
  refine ⟨Nat.le_refl _, ⟨by simp, by show L.length ≤ maxLen; unfold maxLen; omega, (Own.made w 29 _).row, fun q hq => ?_⟩⟩
  obtain ⟨x, hx, rfl⟩ := List.mem_map.1 hq
  exact axOk_nil (hf x hx).1 (hf x hx).2
theorem zeros48 : (zeroRows 48).length = 48 := by simp [zeroRows]
end Go.Proofs.YtahoagbaadnihabGreatDoor

/- Scripts that hurt two devices, purely. -/
namespace Go.Proofs.YtahoagbaadnihabGreatDoor
open Go.RowKit Go.Lib

end Go.Proofs.YtahoagbaadnihabGreatDoor

/- arrastop.both: two devices hurt. -/
namespace Go.Proofs.YtahoagbaadnihabGreatDoor
open Go.RowKit Go.Lib

end Go.Proofs.YtahoagbaadnihabGreatDoor

/- Rows that hold the same are equal: slices.Equal at texts, slices.EqualFunc at answers; a scrub in a script, purely. -/
namespace Go.Proofs.YtahoagbaadnihabGreatDoor
open Go.RowKit Go.Lib

theorem row_cell {w : World} {a : Option Addr} {V : List Value} (h : RowAt w a V) (k : Nat) (hk : k < V.length) : ∃ b o, a = some ⟨b, o, none⟩ ∧ b < w.heap.size ∧ w.cell? ⟨b, o + k, none⟩ = some V[k] := h k _ (List.getElem?_eq_getElem hk)
set_option maxHeartbeats 1600000 in
set_option maxRecDepth 4000 in
theorem eqT_q (a : Option Addr) (n c : Nat) (b : Option Addr) (d : Nat) (S : List ByteArray) (w : World) (h : RowAt w a (S.map .string)) (h2 : RowAt w b (S.map .string)) (hn : n = S.length) (hb : n ≤ maxLen) :
    Calls Tryz.prog 19 #[.slice a n c, .slice b n d] w fun e w' => e = .returned (.bool true) ∧ ∃ q, w' = w.drewN q := by
  have H := hid (And.intro h h2)
  have HN := hid hn
  unfold maxLen at hb
  have n1 : ((n : Int) != n) = false := bne_self_eq_false _
  clear h h2 hn
  go_enter Tryz.func19, Tryz.ntmps19
  go_wp2_with fail
  clear n1
  go_loopw [13] (fun i wr => ∃ k q : Nat, k ≤ n ∧ i = .int .i64 k ∧ wr = w.drewN q) (fun i _ => n - (RowKit.intOf i).toNat)
  case atStart => exact ⟨0, 0, Nat.zero_le _, rfl, rfl⟩
  case round =>
    obtain ⟨k, q, hk, rfl, rfl⟩ := hrel
    by_cases hlt : k < n
    · have hlt' : (k : Int) < n := by omega
      have hkS : k < (S.map Value.string).length := by rw [List.length_map, ← HN.out]; exact hlt
      obtain ⟨p, o, rfl, _, e1⟩ := row_cell H.out.1 k hkS
      obtain ⟨p2, o2, rfl, _, e3⟩ := row_cell H.out.2 k hkS
      rw [List.getElem_map] at e1 e3
      generalize S[k]'(by rw [← HN.out]; exact hlt) = s at e1 e3
      clear H HN hkS
      go_wp2_with fail
      go_quiet (fail)
      go_wp2
      go_roundw
      case rel => exact ⟨k + 1, _, by omega, by go_num, rfl⟩
      case measure => simp [RowKit.intOf]; omega
    · have hlt' : ¬ (k : Int) < n := by omega
      go_wp2
      go_ret
      exact ⟨rfl, q, rfl⟩
theorem eqT_any (a : Option Addr) (n c : Nat) (b : Option Addr) (d : Nat) (S : List ByteArray) (w : World) (h : RowAt w a (S.map .string)) (h2 : RowAt w b (S.map .string)) (hn : n = S.length) (hb : n ≤ maxLen) :
    Calls Tryz.prog 19 #[.slice a n c, .slice b n d] w (OutYes w) := by
  refine (eqT_q a n c b d S w h h2 hn hb).mono ?_
  rintro _ w' ⟨rfl, q, rfl⟩
  exact ⟨rfl, below_drewN (Below.refl _ _) q⟩
theorem AnsAt.drop {w : World} {b o n : Nat} {L : List Nx} (h : AnsAt w (some ⟨b, o, none⟩) n L) (j : Nat) (hj : j ≤ n) : AnsAt w (some ⟨b, o + j * 5, none⟩) (n - j) (L.drop j) := by
  refine ⟨by rw [List.length_drop, h.sn], by have := h.nb; omega, fun i v hv => ?_, fun q hq => h.ok q (List.mem_of_mem_drop hq)⟩
  have e : nxV L = nxV (L.take j) ++ nxV (L.drop j) := by rw [← nxV_app, List.take_append_drop]
  have hl : (nxV (L.take j)).length = j * 5 := by rw [nxV_len, List.length_take, ← h.sn, Nat.min_eq_left hj]
  have hv2 : (nxV L)[j * 5 + i]? = some v := by rw [e, List.getElem?_append_right (by omega), hl, Nat.add_sub_cancel_left]; exact hv
  obtain ⟨b2, o2, e2, hb, c⟩ := h.row (j * 5 + i) v hv2
  cases e2
  exact ⟨b, o + j * 5, rfl, hb, by rw [Nat.add_assoc]; exact c⟩
def listA (A : Ar) : An := ⟨(opn A).2, [], namesE (opn A).1.2, 0, []⟩
section
variable {all : List (List UInt8)} {A : Ar}
end
end Go.Proofs.YtahoagbaadnihabGreatDoor

/- Names that are put together, and sorted; what a script of one hurt device lists, purely. -/
namespace Go.Proofs.YtahoagbaadnihabGreatDoor
open Go.RowKit Go.Lib Go.Sort

theorem okg_app (a b : List (List Fi × Int)) : okG (a ++ b) = okG a ++ okG b := by
  induction a with
  | nil => rfl
  | cons p r ih => rw [List.cons_append, okG, okG, ih, List.append_assoc]
/-- The names of files that were added, of the first k groups. -/
def wantN (R : List An) (Gs : List (List Fi)) : Nat → List ByteArray
  | 0 => []
  | k + 1 => wantN R Gs k ++ (if (an1 R k).code = 0 then (grp Gs k).map (fun f => f.s) else [])
/-- .. and of some files of the next one. -/
def partN (R : List An) (Gs : List (List Fi)) (k j : Nat) : List ByteArray := wantN R Gs k ++ (if (an1 R k).code = 0 then ((grp Gs k).take j).map (fun f => f.s) else [])
theorem partN_none (R : List An) (Gs : List (List Fi)) (k : Nat) : partN R Gs k 0 = wantN R Gs k := by
  unfold partN
  split <;> simp
theorem partN_all (R : List An) (Gs : List (List Fi)) (k : Nat) : partN R Gs k (grp Gs k).length = wantN R Gs (k + 1) := by
  unfold partN
  rw [wantN, List.take_length]
theorem partN_yes (R : List An) (Gs : List (List Fi)) (k j : Nat) (h : (an1 R k).code = 0) (hj : j < (grp Gs k).length) : partN R Gs k (j + 1) = partN R Gs k j ++ [(fi (grp Gs k) j).s] := by
  unfold partN
  rw [if_pos h, if_pos h, List.take_add_one, List.getElem?_eq_getElem hj, List.map_append, ← List.append_assoc, fi_lt _ j hj]
  rfl
theorem partN_no (R : List An) (Gs : List (List Fi)) (k j : Nat) (h : ¬ (an1 R k).code = 0) : partN R Gs k (j + 1) = partN R Gs k j := by
  unfold partN
  rw [if_neg h, if_neg h]
theorem want_okg (R : List An) (Gs : List (List Fi)) (cs : List Int) (hl : cs.length = Gs.length) (hp : ∀ i, i < Gs.length → (an1 R i).code = cod cs i) : ∀ k, k ≤ Gs.length → wantN R Gs k = (okG ((Gs.take k).zip (cs.take k))).map (fun f => f.s)
  | 0, _ => rfl
  | k + 1, hk => by
    have h1 : k < Gs.length := hk
    have h2 : k < cs.length := by omega
    have e1 : Gs.take (k + 1) = Gs.take k ++ [Gs[k]] := by rw [List.take_add_one, List.getElem?_eq_getElem h1]; rfl
    have e2 : cs.take (k + 1) = cs.take k ++ [cs[k]] := by rw [List.take_add_one, List.getElem?_eq_getElem h2]; rfl
    have e3 : grp Gs k = Gs[k] := by unfold grp; rw [List.getElem?_eq_getElem h1]; rfl
    have e4 : cod cs k = cs[k] := by unfold cod; rw [List.getElem?_eq_getElem h2]; rfl
    rw [wantN, want_okg R Gs cs hl hp k (by omega), e1, e2, List.zip_append (by rw [List.length_take, List.length_take, hl]), okg_app, List.map_append, hp k h1, e4, e3]
    congr 1
    show _ = (okG [(Gs[k], cs[k])]).map _
    rw [okG, okG, List.append_nil]
    split <;> rfl
theorem want_len (R : List An) (Gs : List (List Fi)) (k j : Nat) : (partN R Gs k j).length ≤ tot (Gs.take k) + (grp Gs k).length := by
  have h : ∀ k, (wantN R Gs k).length ≤ tot (Gs.take k) := by
    intro k
    induction k with
    | zero => simp [wantN]
    | succ k ih =>
      rw [wantN, List.length_append]
      rcases Nat.lt_or_ge k Gs.length with hk | hk
      · rw [tot_take Gs k hk]
        split
        · rw [List.length_map]; omega
        · simp only [List.length_nil]; omega
      · have e : Gs.take (k + 1) = Gs.take k := by rw [List.take_of_length_le (by omega), List.take_of_length_le hk]
        have e2 : grp Gs k = [] := by unfold grp; rw [List.getElem?_eq_none hk]; rfl
        rw [e, e2]
        split <;> simp <;> exact ih
  unfold partN
  rw [List.length_append]
  have := h k
  split
  · rw [List.length_map, List.length_take]; omega
  · simp only [List.length_nil]; omega
theorem names_told (Gs : List (List Fi)) (hc : Chain 0 Gs) (ht : tot Gs ≤ 10) (k : Nat) (hk : k < 3) (H : List Raw4) (m : Nat) (l : List Ac) (hl : l = Gs.map addAc ++ ((hurtsOf H k 48 m).map hurtAc ++ [listAc])) :
    (an1 (run48 l).2 (l.length - 1)).code = 0 ∧ (an1 (run48 l).2 (l.length - 1)).names = wantN (run48 l).2 Gs Gs.length ∧ (wantN (run48 l).2 Gs Gs.length).Pairwise fun s t => lss s t = true := by
  obtain ⟨e0, a0⟩ := arc_new 48 (by omega) (by omega) (by omega) k hk
  obtain ⟨all', C', D', E', cs, e1, l1, l2, a1, _⟩ := adds_run hk 0 0 Gs _ _ _ _ _ 0 a0 hc (by omega)
  have l3 : all'.length = 48 := by rw [l2]; exact zeros48
  have hok : HOk k (dn all' k) [] (hurtsOf H k 48 m) := by
    have q := hok_of a1.holds.alls k H m
    rw [l3] at q
    exact q
  obtain ⟨D2, e2, w2⟩ := hurts_with a1.holds.alls k hk [] E' a1.worn 0 0 _ hok
  have a2 := a1.turn _ D2 w2
  have e0' : (arNew ((48 : Nat) : Int)).1 = With (zeroRows 48) k (whole (dn (zeroRows 48) k) (ds k) (dp (zeroRows 48) k)) := congrArg Prod.fst e0
  have eR : (run48 l).2 = (cs.map anE ++ (hurtsOf H k 48 m).map (fun _ => anE 0)) ++ [listA (With all' k D2)] := by
    rw [hl, run48, show (arNew 48).1 = _ from e0', run_app, e1]
    dsimp only
    rw [run_app, e2]
    dsimp only
    rw [runS, act_list, List.append_assoc]
    rfl
  have hcod : ∀ i, i < Gs.length → (an1 (run48 l).2 i).code = cod cs i := fun i hi => by rw [eR, List.append_assoc]; exact an1_left _ (by rw [l1]; exact hi)
  have hw := want_okg (run48 l).2 Gs cs l1 hcod Gs.length (Nat.le_refl _)
  rw [List.take_length, ← l1, List.take_length, l1] at hw
  have hG : Holds all' C' D' (okG (Gs.zip cs)) := by have := a2.holds; rwa [List.nil_append] at this
  have hs := okg_srt Gs cs 0 hc (by omega)
  have hat : an1 (run48 l).2 (l.length - 1) = listA (With all' k D2) := by
    have hlen := run48_len l
    rw [eR] at hlen ⊢
    rw [List.length_append, List.length_singleton] at hlen
    rw [an1, List.getElem?_append_right (by omega), show l.length - 1 - (cs.map anE ++ (hurtsOf H k 48 m).map (fun _ => anE 0)).length = 0 by omega]
    rfl
  have ho := a2.list hk
  rw [hat, hw]
  unfold listA
  rw [ho]
  exact ⟨rfl, hG.listed hs, by rw [List.pairwise_map]; exact hs⟩

/-- While names are put together. -/
structure NmsI (w0 : World) (L : List ByteArray) (v : Value) (w : World) : Prop where
  own : w.ownsRow w0.heap.size 9 1 v L.length (L.map .string)
  below : Below w0.heap.size w0 w
theorem NmsI.to {w0 w w' : World} {L : List ByteArray} {v : Value} (h : NmsI w0 L v w) (g : Below w.heap.size w w') : NmsI w0 L v w' := ⟨row_below h.own g, bel3 h.below g⟩
theorem NmsI.app {w0 w w' : World} {L : List ByteArray} {v v' : Value} {s : ByteArray} (h : NmsI w0 L v w) (o : w'.ownsRow w0.heap.size 9 1 v' (L.length + 1) (L.map .string ++ [.string s])) (g : w.grownBy w' v.ownBlock) : NmsI w0 (L ++ [s]) v' w' :=
  ⟨by rw [List.length_append, List.map_append]; exact o, h.below.grown g h.below.size (fun b e => (World.ownsRow.lt h.own b e).1)⟩
theorem NmsI.row {w0 w : World} {L : List ByteArray} {a : Option Addr} {n c : Nat} (h : NmsI w0 L (.slice a n c) w) : n = L.length ∧ RowAt w a (L.map .string) := by
  rcases h.own.2 with ⟨e, hn⟩ | ⟨g, cap, cur, e, _⟩
  · cases e
    have : L = [] := List.eq_nil_of_length_eq_zero hn
    subst this
    exact ⟨rfl, RowAt.nil⟩
  · cases e
    exact ⟨rfl, (own_row h.own).1.row⟩
theorem lss_le {s t : ByteArray} (h : lss s t = true) : decide (s.data.toList ≤ t.data.toList) = true := by
  have := lss_asym h
  rw [decide_eq_true_iff]
  intro hlt
  unfold lss at this
  rw [ByteArray.toList_eq, ByteArray.toList_eq, bytesLess_eq, decide_eq_false_iff_not] at this
  exact this hlt
/-- slices.Sort at names that rise already: they stay. -/
theorem sortT_any (w0 w : World) (L : List ByteArray) (a : Option Addr) (n c : Nat) (H : NmsI w0 L (.slice a n c) w) (hL : L.length ≤ 1000) (hs : L.Pairwise fun s t => lss s t = true) :
    Calls Tryz.prog 18 #[.slice a n c] w fun e w' => e = .returned (.tuple #[]) ∧ NmsI w0 L (.slice a n c) w' := by
  by_cases h0 : L = []
  · subst h0
    obtain rfl : n = 0 := H.row.1
    refine (Tryz.slices_Sort_string_none a c w).mono ?_
    rintro _ w' ⟨rfl, rfl⟩
    exact ⟨rfl, H⟩
  · rcases H.own.2 with ⟨_, h1⟩ | ⟨g, cap, cur, e, hbg, hh, hnc, hcm, hcs, htake⟩
    · exact absurd (List.eq_nil_of_length_eq_zero h1) h0
    cases e
    rw [Nat.mul_one] at htake
    have hlt : g < w.heap.size := lt_of_block hh
    obtain ⟨ss, hss⟩ : ∃ ss, ss = L.map fun s => s.data.toList := ⟨_, rfl⟩
    have hsl : ss.length = L.length := by rw [hss, List.length_map]
    have henc : ss.map encStr = L.map .string := by
      rw [hss, List.map_map]
      rfl
    have hH : Go.Sort.Holds encStr w g 0 ss.toArray := holds_of_block hh (by rw [hsl, henc]; exact htake)
    have hm : (ss.mergeSort fun x y => decide (x ≤ y)) = ss := List.mergeSort_of_pairwise (by
      rw [hss, List.pairwise_map]
      exact hs.imp fun h => lss_le h)
    have C1 := Tryz.slices_Sort_string g 0 c ss w hH hlt (by omega)
    rw [hsl, hm] at C1
    refine C1.mono ?_
    rintro _ w' ⟨rfl, q, os, rfl⟩
    refine ⟨rfl, ?_, H.below.grown (grownBy_sorted _) H.below.size (fun b e => by cases e; exact hbg)⟩
    have := ownsRow_sorted (n := q) (os := os) (ss := ss) (ts := ss) rfl hbg hh (by rw [hsl]; exact hnc) hcm hcs
    rw [hsl, henc] at this
    exact this
end Go.Proofs.YtahoagbaadnihabGreatDoor
