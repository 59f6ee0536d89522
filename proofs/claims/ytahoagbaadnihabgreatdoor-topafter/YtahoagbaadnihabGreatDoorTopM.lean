/- Joined texts: TopCall, TopTold, TopOneM, TopMany, TopTwo, TopBoth, TopEq, TopAb, TopAbA. -/
import Derived.Test.YtahoagbaadnihabGreatDoorTopK
import Derived.Test.YtahoagbaadnihabGreatDoorShlDR
import Derived.Test.YtahoagbaadnihabGreatDoorTopP
import Derived.Deep.RegionWith
import Derived.Deep.RegionHeld3
import Derived.Handy
import Derived.Deep.QuietTactic
import Derived.BigQuiet
import Derived.Shelf.Abstract
import Derived.Lib.SliceRun
/- arrastop.run: acts put together and done over a new archive. -/
namespace Go.Proofs.YtahoagbaadnihabGreatDoor
open Go.RowKit Go.Lib

/-- What the acts answer over a new archive of 48 sectors. -/
def run48 (l : List Ac) : Ha × List An := runS ⟨(arNew 48).1, 0, 0⟩ l
theorem arnew48 : (arNew 48).2 = 0 := congrArg Prod.snd (arc_new 48 (by omega) (by omega) (by omega) 0 (by omega)).1
theorem scr48 (l : List Ac) (h : l.length ≤ 200) : scrS 48 l = ((run48 l).2, (run48 l).1.A, 0) := by
  rw [scrS, if_pos arnew48, if_neg (by omega)]
  rfl
theorem run48_may (l : List Ac) : arMay (run48 l).1.A = true := run_may l _ (arnew_may 48 arnew48)
theorem run48_len (l : List Ac) : (run48 l).2.length = l.length := run_len _ l
/-- Answers and an array that come out. -/
def OutTr (w : World) (l : List Ac) (e : Ending) (w' : World) : Prop :=
  ∃ a n c x m d L, e = .returned (.tuple #[.slice a n c, .agg #[.slice x m d], .bool true]) ∧ (ans L = (run48 l).2 ∧ n ≤ c ∧ AnsAt w' a n L) ∧ (ArrAt w' x m (run48 l).1.A ∧ arMay (run48 l).1.A = true) ∧ Below w.heap.size w w'
theorem OutTr.drew {w w' : World} {l : List Ac} {e : Ending} (h : OutTr w l e w') : OutTr w l e w'.drew := by
  obtain ⟨a, n, c, x, m, d, L, h1, ⟨h2, h3, h4⟩, ⟨h5, h6⟩, h7⟩ := h
  exact ⟨a, n, c, x, m, d, L, h1, ⟨h2, h3, h4.below (Below.refl _ _).drew⟩, ⟨h5.below (Below.refl _ _).drew, h6⟩, h7.drew⟩
theorem ans_len {L : List Nx} {l : List Ac} (h : ans L = (run48 l).2) : L.length = l.length := by
  have := congrArg List.length h
  rw [run48_len, ans, List.length_map] at this
  exact this
theorem tr_out {w W w1 : World} {l : List Ac} {a x : Option Addr} {n c m d : Nat} {L : List Nx} (hl : l.length ≤ 200) (hW : Below w.heap.size w W) (hB : Below W.heap.size W w1) (hr : Own W w.heap.size 35 [.slice none 0 0]) (h2 : ans L = (run48 l).2) (h3 : AnsI w1 W.heap.size (.slice a n c) L) (h4 : ArrAt w1 x m (run48 l).1.A) :
    OutTr w l (.returned (.tuple #[.slice a n c, .agg #[.slice x m d], .bool true])) (w1.setCell ⟨w.heap.size, 0, none⟩ (.slice x m d)) := by
  have hlt := hr.lt
  have c1 := (Chg.refl (fun j => j = w.heap.size) w1).set (p := w.heap.size) rfl 0 (.slice x m d)
  have hL := ans_len h2
  have hm := run48_may l
  obtain ⟨k1, k2⟩ := (h3.chg c1 (by omega)).at (by unfold maxLen; omega)
  exact ⟨a, n, c, x, m, d, L, rfl, ⟨h2, k1, k2⟩, ⟨h4.keepz hm (keepz_set ((hr.below' hB).cell (i := 0) rfl) (.inr (.inr rfl)) _), hm⟩, (bel3 hW hB).setCell (Nat.le_refl _) _⟩
set_option maxHeartbeats 3200000 in
set_option maxRecDepth 8000 in
theorem trun_any (a : Option Addr) (n c : Nat) (P : List Part) (w : World) (H : RowAt w a (P.map partV)) (hn : n = P.length) (hp : P.length ≤ 100) (hok : ∀ q ∈ P, PartOk w q) (hm : cnt P ≤ 200) :
    Calls Tryz.prog 11 #[.slice a n c] w (OutTr w (partL P)) := by
  obtain ⟨W, hW⟩ : ∃ W, W = w.alloc (.cells #[.slice none 0 0] 35) := ⟨_, rfl⟩
  have hB : Below w.heap.size w W := by rw [hW]; go_grown
  have rb : Own W w.heap.size 35 [.slice none 0 0] := by rw [hW]; exact Own.made w 35 [.slice none 0 0]
  have C1 := hid (concat_any a n c P W (H.below hB) hn hp (fun q hq => (hok q hq).below hB) (by omega))
  have HH := hid (And.intro hB (And.intro rb (show (partL P).length ≤ 200 from hm)))
  clear H hn hp hok hm hB rb
  generalize partL P = l at C1 HH ⊢
  obtain ⟨post, hpost⟩ : ∃ post, post = OutTr w l := ⟨_, rfl⟩
  rw [← hpost]
  have HP := hid hpost
  clear hpost
  go_enter Tryz.func11, Tryz.ntmps11
  go_upto_region 1 with fail
  rw [← hW]
  clear hW
  go_wp2_with fail
  refine C1.out.mono ?_
  rintro _ w1 ⟨xa, xn, xc, L, rfl, hL, hl, g1⟩
  have hLl : L.length ≤ 200 := by rw [← acs_len, hl]; exact HH.out.2.2
  have hXn := (hL.at (by unfold maxLen; omega)).2.sn
  have C2 := hid (srun_any 48 xa xn xc L w1 (hL.at (by unfold maxLen; omega)).2)
  rw [hl, scr48 l HH.out.2.2] at C2
  have HX := hid (And.intro hXn (And.intro (show L.length = l.length by rw [← hl, acs_len]) g1))
  clear hL hl hLl g1 C1 hXn
  go_wp2_with fail
  refine C2.out.mono ?_
  rintro _ w2 ⟨ya, yn, yc, za, zm, zc, M, rfl, ⟨h2, h3⟩, h4, g2⟩
  have hML : xn = yn := by
    have e1 := ans_len h2
    have e2 := (h3.at (by unfold maxLen; have := HH.out.2.2; omega)).2.sn
    have e3 := HX.out.1
    have e4 := HX.out.2.1
    omega
  have bA : Below w2.heap.size w2 (w2.alloc (.cells #[.slice za zm zc] 35)) := (Below.refl _ w2).alloc (Nat.le_refl _) _
  have K := hid (tr_out (d := zc) HH.out.2.2 HH.out.1 (bel3 HX.out.2.2 (bel3 g2 bA)) HH.out.2.1 h2 ((h3.below bA).less (Nat.le_trans (Nat.le_refl _) HX.out.2.2.size)) (h4.below bA))
  have q0 := (HH.out.2.1.below' (bel3 HX.out.2.2 (bel3 g2 bA))).cell (i := 0) rfl
  have qf := (HH.out.2.1.below' (bel3 HX.out.2.2 (bel3 g2 bA))).free 0
  have s0 := (Own.made w2 35 [.slice za zm zc]).cell (i := 0) rfl
  have hyn := (h3.at (by unfold maxLen; have e1 := ans_len h2; have := HH.out.2.2; omega)).1
  subst hML
  clear h2 h3 h4 g2 bA C2 HX
  go_upto_region 3 with fail
  obtain ⟨V, hV⟩ : ∃ V, V = w2.alloc (.cells #[.slice za zm zc] 35) := ⟨_, rfl⟩
  have hV' : w2.alloc (.cells [Value.slice za zm zc].toArray 35) = V := hV.symm
  rw [hV'] at s0
  rw [← hV] at K q0 qf ⊢
  clear hV hV'
  have y0 := World.cell?_setCell_same V ⟨w.heap.size, 0, none⟩ (.slice za zm zc) q0
  go_region
  all_goals go_wp2
  all_goals refine bodyPost_ret (v := .tuple #[.slice ya xn yc, .agg #[.slice za zm zc], .bool true]) (by simp [results, Tryz.results11, go_sem, y0]) rfl ?_
  all_goals rw [HP.out]
  all_goals (first | exact K.out | exact OutTr.drew K.out)
end Go.Proofs.YtahoagbaadnihabGreatDoor

/- arrastop.told: do the last answers tell all files that were added? -/
namespace Go.Proofs.YtahoagbaadnihabGreatDoor
open Go.RowKit Go.Lib

def an1 (R : List An) (i : Nat) : An := R[i]?.getD ⟨0, [], [], 0, []⟩
theorem an1_of {L : List Nx} {i : Nat} {q : Nx} (h : L[i]? = some q) : an1 (ans L) i = q.r := by
  rw [an1, ans, List.getElem?_map, h]
  rfl
/-- An answer to a get tells the file, or that there is none. -/
def GetOk (c : Int) (q : An) (g : Fi) : Prop := (c = 0 ∧ q.code = 0 ∧ str q.data = g.d) ∨ (c ≠ 0 ∧ q.code = 6)
theorem tot_take : ∀ (Gs : List (List Fi)) (i : Nat), i < Gs.length → tot (Gs.take (i + 1)) = tot (Gs.take i) + (grp Gs i).length
  | [], i, h => absurd h (Nat.not_lt_zero _)
  | G :: r, 0, _ => by simp [tot, grp]
  | G :: r, i + 1, h => by
    have := tot_take r i (by simpa using h)
    have e : grp (G :: r) (i + 1) = grp r i := by simp [grp]
    rw [e, List.take_succ_cons, List.take_succ_cons]
    show G.length + tot (r.take (i + 1)) = G.length + tot (r.take i) + (grp r i).length
    rw [this]; omega
theorem tot_le : ∀ (Gs : List (List Fi)) (i : Nat), tot (Gs.take i) ≤ tot Gs
  | [], i => by simp
  | G :: r, 0 => by simp [tot]
  | G :: r, i + 1 => by
    have := tot_le r i
    rw [List.take_succ_cons]
    show G.length + tot (r.take i) ≤ G.length + tot r
    omega
theorem add_files {A : List Ax} {Gs : List (List Fi)} (h : acs A = Gs.map addAc) {i : Nat} {q : Ax} (hq : A[i]? = some q) : q.x.files = grp Gs i := by
  have e : (acs A)[i]? = some q.x := by rw [acs, List.getElem?_map, hq]; rfl
  rw [h, List.getElem?_map] at e
  rw [grp]
  cases g : Gs[i]? with
  | none => rw [g] at e; cases e
  | some G =>
    rw [g] at e
    have e' : addAc G = q.x := Option.some.inj e
    rw [← e']
    rfl
def OutYes (w : World) (e : Ending) (w' : World) : Prop := e = .returned (.bool true) ∧ Below w.heap.size w w'
set_option maxHeartbeats 3200000 in
set_option maxRecDepth 8000 in
theorem told_call (a : Option Addr) (n c : Nat) (L : List Nx) (b : Option Addr) (m d : Nat) (A : List Ax) (f : Option Addr) (k e : Nat) (Gs : List (List Fi)) (w : World) (H : AnsAt w a n L) (hc : n ≤ c) (HA : ActAt w b m A) (hA : acs A = Gs.map addAc) (hk : k = tot Gs) (hg : ∀ G ∈ Gs, 1 ≤ G.length) (hkn : k ≤ n) (hmn : m ≤ n) (hn : n ≤ 200)
    (T : ∀ i j, i < Gs.length → j < (grp Gs i).length → GetOk (an1 (ans L) i).code (an1 (ans L) (n - k + (tot (Gs.take i) + j))) (fi (grp Gs i) j)) :
    Calls Tryz.prog 17 #[.slice a n c, .slice b m d, .slice f k e] w (OutYes w) := by
  have hmG : m = Gs.length := by rw [HA.sn, ← acs_len, hA, List.length_map]
  by_cases k0 : k = 0
  · have hG : Gs = [] := by
      cases Gs with
      | nil => rfl
      | cons G r =>
        have := hg G List.mem_cons_self
        have e : tot (G :: r) = G.length + tot r := rfl
        omega
    subst hG
    have m0 : Hid (m ≤ 0) := by rw [hmG]; exact Nat.le_refl _
    have hsub : (n : Int) - (k : Int) = (n : Int) := by omega
    have FIN : Hid (OutYes w (.returned (.bool true)) w) := ⟨rfl, Below.refl _ _⟩
    have hkn : (n : Int) ≤ c := by omega
    clear H HA hA hk hg hmn T hmG k0
    go_enter Tryz.func17, Tryz.ntmps17
    cases a with
    | none =>
      go_upto_region 2 with fail
      clear hsub hkn
      go_upto_region 4 with fail
      go_loopw [8, 22] (fun s i wr => ∃ z : Nat, i = .int .i64 z ∧ s = .int .i64 0 ∧ z ≤ m ∧ Hid (OutYes w (.returned (.bool true)) wr)) (fun _ i _ => m - (intOf i).toNat)
      case atStart => exact ⟨0, rfl, rfl, Nat.zero_le _, FIN.out⟩
      case round =>
        clear FIN
        obtain ⟨z, rfl, rfl, _, FIN⟩ := hrel
        have hlt' : ¬ (z : Int) < m := by have := m0.out; omega
        go_wp2
        go_ret
        exact FIN.out
    | some ad =>
      obtain ⟨b3, o3, fr⟩ := ad
      by_cases hcn : c = n
      · have hcn := hcn
        go_upto_region 2 with fail
        clear hsub hkn
        go_upto_region 4 with fail
        go_loopw [8, 22] (fun s i wr => ∃ z : Nat, i = .int .i64 z ∧ s = .int .i64 0 ∧ z ≤ m ∧ Hid (OutYes w (.returned (.bool true)) wr)) (fun _ i _ => m - (intOf i).toNat)
        case atStart => exact ⟨0, rfl, rfl, Nat.zero_le _, FIN.out⟩
        case round =>
          clear FIN
          obtain ⟨z, rfl, rfl, _, FIN⟩ := hrel
          have hlt' : ¬ (z : Int) < m := by have := m0.out; omega
          go_wp2
          go_ret
          exact FIN.out
      · have hcn := hcn
        go_upto_region 2 with fail
        clear hsub hkn
        go_upto_region 4 with fail
        go_loopw [8, 22] (fun s i wr => ∃ z : Nat, i = .int .i64 z ∧ s = .int .i64 0 ∧ z ≤ m ∧ Hid (OutYes w (.returned (.bool true)) wr)) (fun _ i _ => m - (intOf i).toNat)
        case atStart => exact ⟨0, rfl, rfl, Nat.zero_le _, FIN.out⟩
        case round =>
          clear FIN
          obtain ⟨z, rfl, rfl, _, FIN⟩ := hrel
          have hlt' : ¬ (z : Int) < m := by have := m0.out; omega
          go_wp2
          go_ret
          exact FIN.out
  · obtain ⟨j, hj⟩ : ∃ j, j = n - k := ⟨_, rfl⟩
    have hsub : (n : Int) - (k : Int) = (j : Int) := by omega
    have hnj : n - j = k := by omega
    have hcj : ¬ c = j := by omega
    have hjn : (j : Int) ≤ n := by omega
    obtain ⟨_, b3, o3, _, rfl, _⟩ := H.one 0 (by omega)
    have HH := hid (And.intro H (And.intro HA (And.intro hA (And.intro hk (And.intro hmG hmn)))))
    have HT := hid T
    have HJ := hid (show n = j + k by omega)
    rw [← hj] at HT
    have hkb : k ≤ 200 := by omega
    clear H HA hA hk hg hkn hmn T hmG hj k0
    go_enter Tryz.func17, Tryz.ntmps17
    go_upto_region 2 with fail
    clear hsub
    go_upto_region 4 with fail
    go_loopw [8, 22] (fun s i wr => ∃ i' t : Nat, s = .int .i64 t ∧ i = .int .i64 i' ∧ i' ≤ m ∧ t ≤ k ∧ Hid (t = tot (Gs.take i')) ∧ Hid (Below w.heap.size w wr)) (fun _ i _ => m - (intOf i).toNat)
    case atStart => exact ⟨0, 0, rfl, rfl, Nat.zero_le _, Nat.zero_le _, rfl, Below.refl _ _⟩
    case round =>
      obtain ⟨i', t, rfl, rfl, him, htk, HI, HB⟩ := hrel
      by_cases hlt : i' < m
      · have hlt' : (i' : Int) < m := by omega
        have hin : (i' : Int) < n := by have := HH.out.2.2.2.2.2; omega
        obtain ⟨q, b1, o1, hq, rfl, hb1, hok, x0, x1, x2, x3, x4, x5, x6⟩ := (HH.out.2.1.below HB.out).one i' hlt
        have hqf := add_files HH.out.2.2.1 hq
        have hF := hok.1.2
        rw [hqf] at hF
        obtain ⟨⟨qk, qF, qs, qd, qn, qa, qb⟩, ⟨fa, fn, fc⟩⟩ := q
        dsimp only at x0 x1 x2 x3 x4 x5 x6 hF
        obtain ⟨V, hV⟩ : ∃ V, V = wr.alloc (.cells #[.int .i64 qk, .slice fa fn fc, .string qs, .int .i64 qd, .int .i64 qn, .int .i64 qa, .int .i64 qb] 29) := ⟨_, rfl⟩
        have gV : Below wr.heap.size wr V := by rw [hV]; exact (Below.refl _ wr).alloc (Nat.le_refl _) _
        have z1 := (Own.made wr 29 [.int .i64 qk, .slice fa fn fc, .string qs, .int .i64 qd, .int .i64 qn, .int .i64 qa, .int .i64 qb]).cell (i := 1) rfl
        have z1 : V.cell? ⟨wr.heap.size, 1, none⟩ = some (.slice fa fn fc) := by rw [hV]; exact z1
        have GV := hid (bel3 HB.out gV)
        have HFv := hid (hF.below gV)
        have hiG : i' < Gs.length := by have := HH.out.2.2.2.2.1; omega
        have HR := hid (And.intro hiG (show t + fn ≤ k by have h1 := tot_take Gs i' hiG; have h2 := tot_le Gs (i' + 1); have h3 := HI.out; have h4 := HH.out.2.2.2.1; have h5 := hF.sn; omega))
        have hfn : fn ≤ 200 := by have := HR.out.2; omega
        clear hq hb1 hok hqf hF gV hiG
        go_upto_region 6 with fail
        rw [← hV]
        clear hV x0 x1 x2 x3 x4 x5 x6
        go_upto_region 7 with fail
        clear z1
        go_loopw [8, 30] (fun s l wr' => ∃ l' t' : Nat, s = .int .i64 t' ∧ l = .int .i64 l' ∧ l' ≤ fn ∧ t' ≤ k ∧ Hid (t' = t + l') ∧ Hid (Below V.heap.size V wr')) (fun _ l _ => fn - (intOf l).toNat)
        case atStart => exact ⟨0, t, rfl, rfl, Nat.zero_le _, htk, rfl, Below.refl _ _⟩
        case round =>
          obtain ⟨l', t', rfl, rfl, hlf, htk', HI', HB'⟩ := hrel
          by_cases hlt2 : l' < fn
          · have hlt2' : (l' : Int) < fn := by omega
            obtain ⟨b2, o2, rfl, hb2, y0, y1⟩ := (HFv.out.below HB'.out).c l' hlt2
            generalize hgf : fi (grp Gs i') l' = g at y0 y1
            obtain ⟨gs, gd⟩ := g
            dsimp only at y0 y1
            obtain ⟨V2, hV2⟩ : ∃ V2, V2 = wr.alloc (.cells #[.string gs, .string gd] 52) := ⟨_, rfl⟩
            have gV2 : Below wr.heap.size wr V2 := by rw [hV2]; exact (Below.refl _ wr).alloc (Nat.le_refl _) _
            have hlg := HFv.out.sn
            have htk2 : t' < k := by have h1 := HR.out.2; have h2 := HI'.out; omega
            have htk2' : (t' : Int) < k := by omega
            have g3 := bel3 GV.out (bel3 HB'.out gV2)
            have TT := HT.out i' l' HR.out.1 (by omega)
            rw [hgf, ← HI.out, ← HI'.out] at TT
            obtain ⟨p, b4, o4, hp, e4, _, _, u0, _⟩ := (HH.out.1.below g3).one i' (by omega)
            cases e4
            obtain ⟨r, b5, o5, hr, e5, _, _, v0, v1, _⟩ := (HH.out.1.below g3).one (j + t') (by have := HJ.out; omega)
            cases e5
            rw [an1_of hp, an1_of hr] at TT
            rw [show o3 + (j + t') * 5 = o3 + j * 5 + t' * 5 by rw [Nat.add_mul]; omega] at v0 v1
            have HI2 := hid (show t' + 1 = t + (l' + 1) by have := HI'.out; omega)
            have z0 : V2.cell? ⟨wr.heap.size, 1, none⟩ = some (.string gd) := by rw [hV2]; simp [go_sem]
            have GV2 := hid (bel3 HB'.out gV2)
            clear gV2 hlg g3 hp hr hgf hb2
            go_upto_region 9 with fail
            rw [← hV2]
            clear hV2 y0 y1
            unfold GetOk at TT
            dsimp only at TT
            generalize p.r.code = pc at u0 TT
            generalize r.r.code = rc at v0 TT
            generalize str r.r.data = rd at v1 TT
            rcases TT with ⟨rfl, rfl, rfl⟩ | ⟨hpc, rfl⟩
            · go_quiet (fail)
              have GQ := hid (bel3 GV2.out (below_drewN (Below.refl V2.heap.size V2) nq))
              generalize V2.drewN nq = wq at GQ ⊢
              clear u0 v0 v1 z0 GV2 HI' HB'
              go_wp2
              go_roundw
              case rel => exact ⟨l' + 1, t' + 1, by go_num, by go_num, by omega, by omega, HI2.out, GQ.out⟩
              case measure => simp [intOf]; omega
            · have p1 : (pc == 0) = false := beq_eq_false_iff_ne.2 hpc
              have p2 : (pc != 0) = true := bne_iff_ne.2 hpc
              go_quiet (fail)
              have GQ := hid (bel3 GV2.out (below_drewN (Below.refl V2.heap.size V2) nq))
              generalize V2.drewN nq = wq at GQ ⊢
              clear u0 v0 v1 z0 GV2 HI' HB' p1 p2
              go_wp2
              go_roundw
              case rel => exact ⟨l' + 1, t' + 1, by go_num, by go_num, by omega, by omega, HI2.out, GQ.out⟩
              case measure => simp [intOf]; omega
          · have hlt2' : ¬ (l' : Int) < fn := by omega
            have NX := hid (And.intro (show t' = tot (Gs.take (i' + 1)) by have h1 := tot_take Gs i' HR.out.1; have h2 := HI.out; have h3 := HI'.out; have h4 := HFv.out.sn; omega) (bel3 GV.out HB'.out))
            clear HI' HB' HI HB
            go_wp2
            go_roundw
            case rel => exact ⟨i' + 1, t', rfl, by go_num, by omega, htk', NX.out.1, NX.out.2⟩
            case measure => simp [intOf]; omega
      · have hlt' : ¬ (i' : Int) < m := by omega
        have FIN : Hid (OutYes w (.returned (.bool true)) wr) := ⟨rfl, HB.out⟩
        clear HI HB
        go_wp2
        go_ret
        exact FIN.out
end Go.Proofs.YtahoagbaadnihabGreatDoor

/- What the last answers of a script tell, purely; contracts of small pieces that the theorems of the whole share. -/
namespace Go.Proofs.YtahoagbaadnihabGreatDoor
open Go.RowKit Go.Lib

theorem flatG_at : ∀ (Gs : List (List Fi)) (i j : Nat), i < Gs.length → j < (grp Gs i).length → Gs.flatten[tot (Gs.take i) + j]? = some (fi (grp Gs i) j)
  | [], i, j, h, _ => absurd h (Nat.not_lt_zero _)
  | G :: r, 0, j, _, hj => by
    have hj' : j < G.length := hj
    rw [List.take_zero, show tot [] + j = j by show 0 + j = j; omega, List.flatten_cons, List.getElem?_append_left hj', show grp (G :: r) 0 = G from rfl, fi_lt G j hj', List.getElem?_eq_getElem hj']
  | G :: r, i + 1, j, h, hj => by
    have e : grp (G :: r) (i + 1) = grp r i := by simp [grp]
    rw [e] at hj ⊢
    rw [List.take_succ_cons, List.flatten_cons, show tot (G :: r.take i) + j = G.length + (tot (r.take i) + j) by show G.length + tot (r.take i) + j = _; omega, List.getElem?_append_right (by omega), Nat.add_sub_cancel_left]
    exact flatG_at r i j (by simpa using h) hj
theorem grp_mem {Gs : List (List Fi)} {i j : Nat} (h : j < (grp Gs i).length) : fi (grp Gs i) j ∈ grp Gs i := by
  rw [fi_lt _ j h]
  exact List.getElem_mem h
def gotA (A : Ar) (f : Fi) : An := ⟨(getA A f.s).2, (getA A f.s).1, [], 0, []⟩
theorem gets_got (h : Ha) (L : List Fi) : runS h (L.map getAc) = (h, L.map (gotA h.A)) := gets_run h L
theorem told_of (Gs : List (List Fi)) (cs : List Int) (A : Ar) (pre R : List An) (hR : R = pre ++ Gs.flatten.map (gotA A)) (hp : ∀ i, i < Gs.length → (an1 R i).code = cod cs i) (hg : ∀ i f, f ∈ grp Gs i → getA A f.s = gotF (cod cs i) f) (n : Nat) (hn : n = R.length) :
    ∀ i j, i < Gs.length → j < (grp Gs i).length → GetOk (an1 R i).code (an1 R (n - tot Gs + (tot (Gs.take i) + j))) (fi (grp Gs i) j) := by
  intro i j hi hj
  have hl : n - tot Gs = pre.length := by rw [hn, hR, List.length_append, List.length_map, tot_flat]; omega
  have e : an1 R (n - tot Gs + (tot (Gs.take i) + j)) = gotA A (fi (grp Gs i) j) := by
    rw [hl, an1, hR, List.getElem?_append_right (by omega), Nat.add_sub_cancel_left, List.getElem?_map, flatG_at Gs i j hi hj]
    rfl
  rw [hp i hi, e]
  have hx := hg i _ (grp_mem hj)
  unfold gotF at hx
  by_cases c : cod cs i = 0
  · rw [if_pos c] at hx
    exact .inl ⟨c, by rw [gotA, hx], by show str (getA A _).1 = _; rw [hx]; exact str_of _⟩
  · rw [if_neg c] at hx
    exact .inr ⟨c, by rw [gotA, hx]⟩
set_option maxHeartbeats 400000 in
theorem Picked_any (x m : Int) (w : World) (hx : i64Ok x) (hm : 0 < m ∧ m ≤ 9223372036854775807) :
    Calls Tryz.prog 10 #[.int .i64 x, .int .i64 m] w fun e w' => e = .returned (.int .i64 (pick x m)) ∧ w' = w := by
  go_enter Tryz.func10, Tryz.ntmps10
  go_wp2_with (go_at_call 24; refine (picked_gen _ _ _ hx hm).mono ?_; rintro _ w9 ⟨rfl, h9⟩; (have h8 := h9.symm); subst h8)
  go_ret
  exact ⟨rfl, rfl⟩
theorem nat_pick (x : Int) : ∃ K : Nat, pick x 3 = (K : Int) ∧ K < 3 := by
  have := pick_bd x 3 (by omega)
  exact ⟨(pick x 3).toNat, by omega, by omega⟩
theorem hurtsgo_le (d m : Int) : ∀ (l : List Raw4) (T : List Int), (hurtsGo d m l T).length ≤ l.length
  | [], _ => Nat.le_refl _
  | r :: l, T => by
    rw [hurtsGo_cons]
    have h := hurtsgo_le d m l
    split
    · have := h T; simp only [List.length_cons]; omega
    · split
      · have := h (pick r.a m :: T); simp only [List.length_cons]; omega
      · split
        · have := h T; simp only [List.length_cons]; omega
        · have := h T; simp only [List.length_cons]; omega
theorem hurts_le (l : List Raw4) (d m : Int) (most : Nat) : (hurtsOf l d m most).length ≤ most := by
  unfold hurtsOf
  refine Nat.le_trans (hurtsgo_le _ _ _ _) ?_
  rw [List.length_take]
  omega
theorem chain_ne : ∀ (Gs : List (List Fi)) (m : Nat), Chain m Gs → ∀ G ∈ Gs, 1 ≤ G.length
  | [], _, _, _, h => by cases h
  | F :: r, m, h, G, hG => by
    rcases List.mem_cons.1 hG with e | e
    · rw [e]; exact h.1.2.1
    · exact chain_ne r _ h.2 G e
end Go.Proofs.YtahoagbaadnihabGreatDoor

/- Lists of acts, laid as one argument of arrastop.run; a scrub between two hurts, purely. -/
namespace Go.Proofs.YtahoagbaadnihabGreatDoor
open Go.RowKit Go.Lib

theorem laid_run {w : World} (P : List Part) (hp : ∀ q ∈ P, PartOk w q) (hc : P.length ≤ 100) {l : List Ac} (hl : partL P = l) (hm : l.length ≤ 200) (n : Nat) (hn : n = P.length) :
    Calls Tryz.prog 11 #[.slice (some ⟨w.heap.size, 0, none⟩) n n] (w.alloc (.cells (P.map partV).toArray 23)) (OutTr (w.alloc (.cells (P.map partV).toArray 23)) l) := by
  have g : Below w.heap.size w (w.alloc (.cells (P.map partV).toArray 23)) := (Below.refl _ w).alloc (Nat.le_refl _) _
  rw [← hl]
  exact trun_any (some ⟨w.heap.size, 0, none⟩) n n P _ (Own.made w 23 (P.map partV)).row hn hc (fun q hq => (hp q hq).below g) (by rw [cnt, hl]; exact hm)
theorem zeros48 : (zeroRows 48).length = 48 := by simp [zeroRows]
end Go.Proofs.YtahoagbaadnihabGreatDoor

/- Scripts that hurt two devices, purely. -/
namespace Go.Proofs.YtahoagbaadnihabGreatDoor
open Go.RowKit Go.Lib

end Go.Proofs.YtahoagbaadnihabGreatDoor

/- arrastop.both: two devices hurt. -/
namespace Go.Proofs.YtahoagbaadnihabGreatDoor
open Go.RowKit Go.Lib

end Go.Proofs.YtahoagbaadnihabGreatDoor

/- Rows that hold the same are equal: slices.Equal at texts, slices.EqualFunc at answers; a scrub in a script, purely. -/
namespace Go.Proofs.YtahoagbaadnihabGreatDoor
open Go.RowKit Go.Lib

theorem row_cell {w : World} {a : Option Addr} {V : List Value} (h : RowAt w a V) (k : Nat) (hk : k < V.length) : ∃ b o, a = some ⟨b, o, none⟩ ∧ b < w.heap.size ∧ w.cell? ⟨b, o + k, none⟩ = some V[k] := h k _ (List.getElem?_eq_getElem hk)
theorem AnsAt.drop {w : World} {b o n : Nat} {L : List Nx} (h : AnsAt w (some ⟨b, o, none⟩) n L) (j : Nat) (hj : j ≤ n) : AnsAt w (some ⟨b, o + j * 5, none⟩) (n - j) (L.drop j) := by
  refine ⟨by rw [List.length_drop, h.sn], by have := h.nb; omega, fun i v hv => ?_, fun q hq => h.ok q (List.mem_of_mem_drop hq)⟩
  have e : nxV L = nxV (L.take j) ++ nxV (L.drop j) := by rw [← nxV_app, List.take_append_drop]
  have hl : (nxV (L.take j)).length = j * 5 := by rw [nxV_len, List.length_take, ← h.sn, Nat.min_eq_left hj]
  have hv2 : (nxV L)[j * 5 + i]? = some v := by rw [e, List.getElem?_append_right (by omega), hl, Nat.add_sub_cancel_left]; exact hv
  obtain ⟨b2, o2, e2, hb, c⟩ := h.row (j * 5 + i) v hv2
  cases e2
  exact ⟨b, o + j * 5, rfl, hb, by rw [Nat.add_assoc]; exact c⟩
theorem drop_tail {α : Type} (P T : List α) (k n : Nat) (hn : n = (P ++ T).length) (hk : k = T.length) : (P ++ T).drop (n - k) = T := by
  rw [hn, hk, List.length_append, Nat.add_sub_cancel, List.drop_left]
section
variable {all : List (List UInt8)} {A : Ar}
end
end Go.Proofs.YtahoagbaadnihabGreatDoor

/- Rows of numbers that are put together, devices that are the same; a scrub in two steps, purely. -/
namespace Go.Proofs.YtahoagbaadnihabGreatDoor
open Go.RowKit Go.Lib

theorem intsV_app (L M : List Int) : intsV (L ++ M) = intsV L ++ intsV M := List.map_append
theorem AnsAt.take {w : World} {a : Option Addr} {n : Nat} {L : List Nx} (h : AnsAt w a n L) (k : Nat) (hk : k ≤ n) : AnsAt w a k (L.take k) := by
  refine ⟨by rw [List.length_take, ← h.sn, Nat.min_eq_left hk], Nat.le_trans hk h.nb, fun i v hv => ?_, fun q hq => h.ok q (List.mem_of_mem_take hq)⟩
  have e : nxV L = nxV (L.take k) ++ nxV (L.drop k) := by rw [← nxV_app, List.take_append_drop]
  have hi : i < (nxV (L.take k)).length := (List.getElem?_eq_some_iff.1 hv).1
  exact h.row i v (by rw [e, List.getElem?_append_left hi]; exact hv)
theorem ActAt.take {w : World} {a : Option Addr} {n : Nat} {L : List Ax} (h : ActAt w a n L) (k : Nat) (hk : k ≤ n) : ActAt w a k (L.take k) := by
  refine ⟨by rw [List.length_take, ← h.sn, Nat.min_eq_left hk], Nat.le_trans hk h.nb, fun i v hv => ?_, fun q hq => h.ok q (List.mem_of_mem_take hq)⟩
  have e : axV L = axV (L.take k) ++ axV (L.drop k) := by rw [← axV_app, List.take_append_drop]
  have hi : i < (axV (L.take k)).length := (List.getElem?_eq_some_iff.1 hv).1
  exact h.row i v (by rw [e, List.getElem?_append_left hi]; exact hv)
end Go.Proofs.YtahoagbaadnihabGreatDoor

/- Files that are added while a device is hurt, purely; rows of whatever that are put together. -/
namespace Go.Proofs.YtahoagbaadnihabGreatDoor
open Go.RowKit Go.Lib

theorem wrap_sm {c : Nat} (h : c ≤ 1000) : wrap64 (c : Int) = (c : Int) := by
  unfold wrap64
  omega
def cutH (h : List Hact) (M i : Nat) : Nat := i * h.length / M
def segH (h : List Hact) (M i : Nat) : List Hact := (h.drop (cutH h M i)).take (cutH h M (i + 1) - cutH h M i)
def mixP (h : List Hact) (Gs : List (List Fi)) (k : Nat) : List (List Hact × List Fi) := (List.range k).map fun i => (segH h Gs.length i, grp Gs i)
/-- Where the i-th add stands. -/
def posP (h : List Hact) (Gs : List (List Fi)) (i : Nat) : Nat := (mixA (mixP h Gs i)).length + (segH h Gs.length i).length
theorem mixA_app : ∀ (P Q : List (List Hact × List Fi)), mixA (P ++ Q) = mixA P ++ mixA Q
  | [], Q => rfl
  | p :: r, Q => by
    show p.1.map hurtAc ++ addAc p.2 :: mixA (r ++ Q) = (p.1.map hurtAc ++ addAc p.2 :: mixA r) ++ mixA Q
    rw [mixA_app r Q, List.append_assoc]
    rfl
theorem mixH_app : ∀ (P Q : List (List Hact × List Fi)), mixH (P ++ Q) = mixH P ++ mixH Q
  | [], Q => rfl
  | p :: r, Q => by
    show p.1 ++ mixH (r ++ Q) = (p.1 ++ mixH r) ++ mixH Q
    rw [mixH_app r Q, List.append_assoc]
theorem mixP_succ (h : List Hact) (Gs : List (List Fi)) (k : Nat) : mixP h Gs (k + 1) = mixP h Gs k ++ [(segH h Gs.length k, grp Gs k)] := by
  unfold mixP
  rw [List.range_succ, List.map_append]
  rfl
theorem cut_mono (h : List Hact) (M i : Nat) : cutH h M i ≤ cutH h M (i + 1) := Nat.div_le_div_right (Nat.mul_le_mul_right _ (Nat.le_succ i))
theorem cut_le (h : List Hact) (M i : Nat) (hi : i ≤ M) : cutH h M i ≤ h.length := Nat.div_le_of_le_mul (Nat.mul_le_mul_right _ hi)
theorem cut_up (h : List Hact) (M i j : Nat) (hij : i ≤ j) : cutH h M i ≤ cutH h M j := Nat.div_le_div_right (Nat.mul_le_mul_right _ hij)
theorem seg_len (h : List Hact) (M i : Nat) (hi : i < M) : (segH h M i).length = cutH h M (i + 1) - cutH h M i := by
  unfold segH
  have := cut_le h M (i + 1) hi
  rw [List.length_take, List.length_drop]
  omega
theorem mixH_take (h : List Hact) (Gs : List (List Fi)) : ∀ k, mixH (mixP h Gs k) = h.take (cutH h Gs.length k)
  | 0 => by
    have : cutH h Gs.length 0 = 0 := by unfold cutH; rw [Nat.zero_mul, Nat.zero_div]
    rw [this]
    rfl
  | k + 1 => by
    rw [mixP_succ, mixH_app, mixH_take h Gs k]
    show h.take (cutH h Gs.length k) ++ (segH h Gs.length k ++ []) = _
    rw [List.append_nil]
    unfold segH
    rw [← List.take_add, Nat.add_sub_cancel' (cut_mono h Gs.length k)]
theorem mixP_snd (h : List Hact) (Gs : List (List Fi)) : (mixP h Gs Gs.length).map (fun p => p.2) = Gs := by
  unfold mixP
  rw [List.map_map]
  apply List.ext_getElem
  · simp
  · intro i h1 h2
    simp [grp, h2]
theorem mixP_take (h : List Hact) (Gs : List (List Fi)) (M i : Nat) (hi : i ≤ M) : (mixP h Gs M).take i = mixP h Gs i := by
  unfold mixP
  rw [← List.map_take, List.take_range, Nat.min_eq_left hi]
theorem mixP_len (h : List Hact) (Gs : List (List Fi)) (k : Nat) : (mixP h Gs k).length = k := by simp [mixP]
theorem mixA_snoc (h : List Hact) (Gs : List (List Fi)) (k : Nat) : mixA (mixP h Gs (k + 1)) = mixA (mixP h Gs k) ++ (segH h Gs.length k).map hurtAc ++ [addAc (grp Gs k)] := by
  rw [mixP_succ, mixA_app, List.append_assoc]
  rfl
/-- How many acts: no more than the hurts and the adds. -/
theorem mixA_len (h : List Hact) (Gs : List (List Fi)) : ∀ k, k ≤ Gs.length → (mixA (mixP h Gs k)).length = cutH h Gs.length k + k
  | 0, _ => by
    have : cutH h Gs.length 0 = 0 := by unfold cutH; rw [Nat.zero_mul, Nat.zero_div]
    rw [this]
    rfl
  | k + 1, hk => by
    have h1 := mixA_len h Gs k (by omega)
    have h2 := seg_len h Gs.length k hk
    have h3 := cut_mono h Gs.length k
    rw [mixA_snoc, List.length_append, List.length_append, List.length_map, h1, h2, List.length_singleton]
    omega
theorem posP_eq (h : List Hact) (Gs : List (List Fi)) (i : Nat) (hi : i < Gs.length) : posP h Gs i = cutH h Gs.length (i + 1) + i := by
  unfold posP
  rw [mixA_len h Gs i (by omega), seg_len h Gs.length i hi]
  have h3 := cut_mono h Gs.length i
  omega
theorem mixN_at : ∀ (P : List (List Hact × List Fi)) (cs : List Int), cs.length = P.length → ∀ (i : Nat) (hi : i < P.length), (mixN P cs)[(mixA (P.take i)).length + (P[i]).1.length]? = some (anE (cod cs i))
  | [], _, _, i, hi => absurd hi (Nat.not_lt_zero _)
  | p :: r, [], hl, _, _ => by simp at hl
  | p :: r, c :: cs, hl, 0, hi => by
    show ((p.1.map fun _ => anE 0) ++ anE c :: mixN r cs)[0 + p.1.length]? = _
    rw [Nat.zero_add, List.getElem?_append_right (by rw [List.length_map]; exact Nat.le_refl _), List.length_map, Nat.sub_self]
    rfl
  | p :: r, c :: cs, hl, i + 1, hi => by
    have hi' : i < r.length := Nat.lt_of_succ_lt_succ hi
    have ih := mixN_at r cs (by simpa using hl) i hi'
    have e1 : (mixA ((p :: r).take (i + 1))).length = p.1.length + 1 + (mixA (r.take i)).length := by
      show (p.1.map hurtAc ++ addAc p.2 :: mixA (r.take i)).length = _
      rw [List.length_append, List.length_map, List.length_cons]
      omega
    have e2 : ((p :: r)[i + 1]'hi).1.length = (r[i]'hi').1.length := rfl
    rw [e1, e2]
    show ((p.1.map fun _ => anE 0) ++ anE c :: mixN r cs)[_]? = _
    rw [List.getElem?_append_right (by rw [List.length_map]; omega), List.length_map, show p.1.length + 1 + (mixA (r.take i)).length + (r[i]'hi').1.length - p.1.length = ((mixA (r.take i)).length + (r[i]'hi').1.length) + 1 by omega, List.getElem?_cons_succ, ih]
    rfl
theorem after_told (Gs : List (List Fi)) (hc : Chain 0 Gs) (ht : tot Gs ≤ 8) (k : Nat) (hk : k < 3) (H : List Raw4) (m : Nat) (l : List Ac) (hl : l = mixA (mixP (hurtsOf H k 48 m) Gs Gs.length) ++ Gs.flatten.map getAc) (R : List An)
    (hR : R = (List.range Gs.length).map (fun i => an1 (run48 l).2 (posP (hurtsOf H k 48 m) Gs i)) ++ (run48 l).2.drop (l.length - tot Gs)) :
    ∀ i j, i < Gs.length → j < (grp Gs i).length → GetOk (an1 R i).code (an1 R (R.length - tot Gs + (tot (Gs.take i) + j))) (fi (grp Gs i) j) := by
  obtain ⟨e0, a0⟩ := arc_new 48 (by omega) (by omega) (by omega) k hk
  obtain ⟨h, hh⟩ : ∃ h, h = hurtsOf H k 48 m := ⟨_, rfl⟩
  have hA := a0.holds.alls
  have hok : HOk k (dn (zeroRows 48) k) [] (mixH (mixP h Gs Gs.length)) := by
    have q : HOk k (dn (zeroRows 48) k) [] (hurtsOf H k 48 m) := by
      have q := hok_of hA k H m
      rw [zeros48] at q
      exact q
    rw [← hh] at q
    rw [mixH_take]
    rw [← List.take_append_drop (cutH h Gs.length Gs.length) h] at q
    exact ((hok_app k _ [] _ _).1 q).1
  rw [← hh] at hl hR
  have hsnd := mixP_snd h Gs
  obtain ⟨all', C', D', S', E', cs, e1, l1, l2, a1, _⟩ := mix_run hk 0 0 (mixP h Gs Gs.length) _ _ _ _ _ _ 0 a0 (by rw [hsnd]; exact hc) (by rw [hsnd]; omega) hok
  rw [hsnd, List.nil_append] at a1
  rw [mixP_len] at l1
  have e0' : (arNew ((48 : Nat) : Int)).1 = With (zeroRows 48) k (whole (dn (zeroRows 48) k) (ds k) (dp (zeroRows 48) k)) := congrArg Prod.fst e0
  have eR : (run48 l).2 = mixN (mixP h Gs Gs.length) cs ++ Gs.flatten.map (gotA (With all' k E')) := by
    rw [hl, run48, show (arNew 48).1 = _ from e0', run_app, e1]
    dsimp only
    rw [gets_got]
  have hlen := run48_len l
  have hT : tot Gs = (Gs.flatten.map (gotA (With all' k E'))).length := by rw [List.length_map, tot_flat]
  have hd : (run48 l).2.drop (l.length - tot Gs) = Gs.flatten.map (gotA (With all' k E')) := by
    rw [eR] at hlen ⊢
    exact drop_tail _ _ _ _ hlen.symm hT
  have hcod : ∀ i, i < Gs.length → an1 (run48 l).2 (posP h Gs i) = anE (cod cs i) := fun i hi => by
    have q := mixN_at (mixP h Gs Gs.length) cs (by rw [mixP_len]; exact l1) i (by rw [mixP_len]; exact hi)
    rw [mixP_take h Gs _ i (by omega)] at q
    have e2 : ((mixP h Gs Gs.length)[i]'(by rw [mixP_len]; exact hi)).1 = segH h Gs.length i := by simp [mixP]
    rw [e2] at q
    have q' : (mixN (mixP h Gs Gs.length) cs)[posP h Gs i]? = some (anE (cod cs i)) := q
    rw [eR, an1, List.getElem?_append_left (List.getElem?_eq_some_iff.1 q').1, q']
    rfl
  rw [hd] at hR
  refine told_of Gs cs (With all' k E') _ R hR (fun i hi => ?_) (fun i f hf => told_any Gs cs l1 hc (by omega) a1.holds (a1.same hk) i f hf) R.length rfl
  rw [hR, an1, List.getElem?_append_left (by simpa using hi), List.getElem?_map, List.getElem?_range hi]
  show (an1 (run48 l).2 (posP h Gs i)).code = _
  rw [hcod i hi]
  rfl

theorem seg_src {w : World} {b o n : Nat} {H : List Ax} (h : ActAt w (some ⟨b, o, none⟩) n H) (c1 k : Nat) (hk : c1 + k ≤ n) : ((H.drop c1).take k).length = k ∧ ∀ j u, (axV ((H.drop c1).take k))[j]? = some u → w.cell? ((⟨b, o + c1 * 7, none⟩ : Addr).add j) = some u := by
  have hs := h.sn
  refine ⟨by rw [List.length_take, List.length_drop]; omega, fun j u hu => ?_⟩
  have e : axV H = axV (H.take c1) ++ (axV ((H.drop c1).take k) ++ axV ((H.drop c1).drop k)) := by rw [← axV_app, ← axV_app, List.take_append_drop, List.take_append_drop]
  have hl : (axV (H.take c1)).length = c1 * 7 := by rw [axV_len, List.length_take, Nat.min_eq_left (by omega)]
  have hj := (List.getElem?_eq_some_iff.1 hu).1
  have hu2 : (axV H)[c1 * 7 + j]? = some u := by rw [e, List.getElem?_append_right (by omega), hl, Nat.add_sub_cancel_left, List.getElem?_append_left hj]; exact hu
  obtain ⟨b2, o2, e2, _, c⟩ := h.row (c1 * 7 + j) u hu2
  cases e2
  rw [Addr.add_lit]
  show w.cell? ⟨b, o + c1 * 7 + j, none⟩ = _
  rw [Nat.add_assoc]
  exact c
theorem seg_acs {H : List Ax} {h : List Hact} (e : acs H = h.map hurtAc) (M i : Nat) : acs ((H.drop (cutH h M i)).take (cutH h M (i + 1) - cutH h M i)) = (segH h M i).map hurtAc := by
  unfold segH
  rw [List.map_take, List.map_drop, ← e]
  unfold acs
  rw [List.map_take, List.map_drop]
/-- append of whatever onto a row of the call's own. -/
theorem run_appendO {w : World} (ty t e : TypeId) (z : Value) (size bytes : Nat) (ht : Tryz.prog.underlying t = some (.slice e)) (hinfo : (Tryz.prog.info? e).map (fun i => (i.zero, i.size, i.bytes)) = some (some z, size, bytes)) (hzs : z.cells.size = size) (hs0 : 0 < size)
    (base : Nat) (v : Value) (n : Nat) (xs : List Value) (H : w.ownsRow base e size v n xs) (M : List Value) (k : Nat) (hM : M.length = k * size) (x : Option Addr) (c2 : Nat) (hx : k = 0 ∨ ∃ ad, x = some ad ∧ ∀ j u, M[j]? = some u → w.cell? (ad.add j) = some u) (h1 : ∀ u ∈ M, u.oneCell' = true) (hb : n + k ≤ 100000) (hby : bytes ≤ 1000) (hbase : base ≤ w.heap.size) :
    ∃ a' c' w', (Builtin.append_ #[t, t] ty #[v, .slice x k c2]).run Tryz.prog w = .ok (.slice a' (n + k) c') w' ∧ w'.ownsRow base e size (.slice a' (n + k) c') (n + k) (xs ++ M) ∧ w.grownBy w' v.ownBlock := by
  obtain ⟨i0, hi, hz0, hz1, hz2⟩ := info_parts hinfo
  by_cases h0 : k = 0
  · subst h0
    have hMn : M = [] := List.eq_nil_of_length_eq_zero (by rw [hM, Nat.zero_mul])
    subst hMn
    have hv : ∃ a' c', v = .slice a' n c' ∧ n ≤ c' := by
      rcases H.2 with ⟨e, hn⟩ | ⟨g, cap, cur, e, _, _, hnc, _⟩
      · subst hn; exact ⟨none, 0, e, Nat.le_refl _⟩
      · exact ⟨_, _, e, hnc⟩
    obtain ⟨a', c', rfl, hle⟩ := hv
    refine ⟨a', c', w, ?_, by simpa using H, ⟨rfl, rfl, rfl, Nat.le_refl _, fun _ _ _ => rfl⟩⟩
    cases x <;> cases a' <;> simp [Builtin.append_, run_underlying ht, sizeOf, typeInfo, hi, Builtin.lenOf, hle, Builtin.firstCells, loadCells, loadCellsFrom, storeCells]
  · obtain ⟨ad, rfl, hnews⟩ := hx.resolve_left h0
    have hbb : (n + k) * bytes ≤ 140737488355328 := Nat.le_trans (Nat.mul_le_mul hb hby) (by decide)
    obtain ⟨v', w', hr, ho, hg, _⟩ := run_append_own (P := Tryz.prog) w base t ty e i0 z size bytes ht hi hz0 hz1 hz2 hzs hs0 v n xs H ad k c2 M hM hnews h1 (by unfold maxLen; omega) hbb hbase
    obtain ⟨g, cap, rfl, _⟩ := owns_form ho (by omega)
    exact ⟨_, _, w', hr, ho, hg⟩
theorem wpList_appendO (w : World) {ops : Array Oper} {rest : List Oper} {o : Oper} {a : Act} {Q : Exit → Act → World → Prop} (hgd : o.guard = none) (s x : Operand) (t e : TypeId) (z : Value) (size bytes : Nat)
    (ho : o.op = .call { callee := .builtin .append, args := #[s, x], argTypes := #[t, t] }) (ht : Tryz.prog.underlying t = some (.slice e)) (hinfo : (Tryz.prog.info? e).map (fun i => (i.zero, i.size, i.bytes)) = some (some z, size, bytes)) (hzs : z.cells.size = size) (hs0 : 0 < size)
    (base : Nat) (v : Value) (n : Nat) (xs : List Value) (hs : a.eval s = v) (H : w.ownsRow base e size v n xs) (M : List Value) (k : Nat) (hM : M.length = k * size) (xa : Option Addr) (c2 : Nat) (hx : a.eval x = .slice xa k c2) (hc : k = 0 ∨ ∃ ad, xa = some ad ∧ ∀ j u, M[j]? = some u → w.cell? (ad.add j) = some u) (h1 : ∀ u ∈ M, u.oneCell' = true) (hb : n + k ≤ 100000) (hby : bytes ≤ 1000) (hbase : base ≤ w.heap.size)
    (h : ∀ a' c' w', w'.ownsRow base e size (.slice a' (n + k) c') (n + k) (xs ++ M) → w.grownBy w' v.ownBlock → wpList Tryz.prog ops Q rest (a.put o.dst (.slice a' (n + k) c')) w') :
    wpList Tryz.prog ops Q (o :: rest) a w := by
  obtain ⟨a', c', w', hr, h2, h3⟩ := run_appendO o.type t e z size bytes ht hinfo hzs hs0 base v n xs H M k hM xa c2 hc h1 hb hby hbase
  refine wpList_plain hgd fun K hK => ?_
  unfold Oper.wp execOp
  simp only [ho, resolve, invoke, builtin, Sem.run_bind, Sem.run_pure, Result.andThen_ok, List.map_toArray, List.map_cons, List.map_nil, hs, hx, hr]
  exact hK _ _ (h a' c' w' h2 h3)
/-- Two rows of other elements lie in other blocks. -/
theorem rows_other {w : World} {b1 b2 s1 s2 n1 n2 : Nat} {e1 e2 : TypeId} {v1 v2 : Value} {x1 x2 : List Value} (h : w.ownsRow b1 e1 s1 v1 n1 x1) (h' : w.ownsRow b2 e2 s2 v2 n2 x2) (hne : e1 ≠ e2) : ∀ g, v1.ownBlock = some g → v2.ownBlock ≠ some g := by
  intro g k1 k2
  rcases h.2 with ⟨rfl, _⟩ | ⟨g1, _, _, rfl, _, hh, _⟩
  · cases k1
  · rcases h'.2 with ⟨rfl, _⟩ | ⟨g2, _, _, rfl, _, hh2, _⟩
    · cases k2
    · cases k1
      cases k2
      rw [hh] at hh2
      simp at hh2
      exact hne hh2.2
theorem row_kept {w w' : World} {b s n : Nat} {e : TypeId} {v : Value} {xs : List Value} {row : Option Nat} (h : w.ownsRow b e s v n xs) (g : w.grownBy w' row) (ha : ∀ k, v.ownBlock = some k → row ≠ some k) : w'.ownsRow b e s v n xs := by
  refine World.ownsRow.kept h g ?_
  cases q : v.ownBlock with
  | none => exact .inl rfl
  | some x => exact .inr (fun e => ha x q e.symm)
theorem Own.grown {w w' : World} {row : Option Nat} {b : Nat} {t : TypeId} {V : List Value} (h : Own w b t V) (g : w.grownBy w' row) (hne : row ≠ some b) : Own w' b t V := by
  obtain ⟨r, e⟩ := h
  exact ⟨r, (g.block b (lt_of_block e) (fun x => hne x.symm)).trans e⟩
/-- While acts are put together, and the places of some. -/
structure AftI (w0 : World) (L : List Ax) (T : List Int) (v vt : Value) (w : World) : Prop where
  acts : w.ownsRow w0.heap.size 29 7 v L.length (axV L)
  ints : w.ownsRow w0.heap.size 3 1 vt T.length (intsV T)
  fil : ∀ q ∈ L, AxOk w0 q
  below : Below w0.heap.size w0 w
section
variable {w0 w w' : World} {L M : List Ax} {T : List Int} {v vt v' : Value}
theorem AftI.to (h : AftI w0 L T v vt w) (g : Below w.heap.size w w') : AftI w0 L T v vt w' := ⟨row_below h.acts g, row_below h.ints g, h.fil, bel3 h.below g⟩
theorem AftI.app (h : AftI w0 L T v vt w) (hM : ∀ q ∈ M, AxOk w0 q) (o : w'.ownsRow w0.heap.size 29 7 v' (L.length + M.length) (axV L ++ axV M)) (g : w.grownBy w' v.ownBlock) : AftI w0 (L ++ M) T v' vt w' :=
  ⟨by rw [List.length_append, axV_app]; exact o, row_kept h.ints g (fun k q e => rows_other h.ints h.acts (by decide) k q e), fun q hq => by
    rcases List.mem_append.1 hq with e | e
    · exact h.fil q e
    · exact hM q e, h.below.grown g h.below.size (fun b e => (World.ownsRow.lt h.acts b e).1)⟩
theorem AftI.put (h : AftI w0 L T v vt w) (x : Int) (o : w'.ownsRow w0.heap.size 3 1 v' (T.length + 1) (intsV T ++ intsV [x])) (g : w.grownBy w' vt.ownBlock) : AftI w0 L (T ++ [x]) v v' w' :=
  ⟨row_kept h.acts g (fun k q e => rows_other h.acts h.ints (by decide) k q e), by rw [List.length_append, intsV_app]; exact o, h.fil, h.below.grown g h.below.size (fun b e => (World.ownsRow.lt h.ints b e).1)⟩
theorem row_at {w : World} {base size n : Nat} {e : TypeId} {a : Option Addr} {m c : Nat} {xs : List Value} (h : w.ownsRow base e size (.slice a m c) n xs) (hx : xs.length = n * size) : m = n ∧ m ≤ c ∧ RowAt w a xs := by
  rcases h.2 with ⟨e, hn⟩ | ⟨g, cap, cur, e, _, hh, hnc, _, _, ht⟩
  · cases e
    subst hn
    have : xs = [] := List.eq_nil_of_length_eq_zero (by rw [hx, Nat.zero_mul])
    subst this
    exact ⟨rfl, Nat.le_refl _, RowAt.nil⟩
  · cases e
    have ho : Own w g _ xs := ⟨cur.toList.drop (n * size), by rw [← ht, List.take_append_drop]; exact hh⟩
    exact ⟨rfl, hnc, ho.row⟩
theorem AftI.at {a : Option Addr} {m c : Nat} (h : AftI w0 L T (.slice a m c) vt w) (hL : L.length ≤ 1000) : m ≤ c ∧ ActAt w a m L := by
  obtain ⟨h1, h2, h3⟩ := row_at h.acts (axV_len L)
  exact ⟨h2, h1, by unfold maxLen; omega, h3, fun q hq => (h.fil q hq).below h.below⟩
end
/-- While answers are put together. -/
structure FstI (w0 : World) (F : List Nx) (v : Value) (w : World) : Prop where
  own : w.ownsRow w0.heap.size 42 5 v F.length (nxV F)
  fil : ∀ q ∈ F, NxOk w0 q
  below : Below w0.heap.size w0 w
section
variable {w0 w w' : World} {F M : List Nx} {v v' : Value}
theorem FstI.to (h : FstI w0 F v w) (g : Below w.heap.size w w') : FstI w0 F v w' := ⟨row_below h.own g, h.fil, bel3 h.below g⟩
theorem FstI.app (h : FstI w0 F v w) (hM : ∀ q ∈ M, NxOk w0 q) (o : w'.ownsRow w0.heap.size 42 5 v' (F.length + M.length) (nxV F ++ nxV M)) (g : w.grownBy w' v.ownBlock) : FstI w0 (F ++ M) v' w' :=
  ⟨by rw [List.length_append, nxV_app]; exact o, fun q hq => by
    rcases List.mem_append.1 hq with e | e
    · exact h.fil q e
    · exact hM q e, h.below.grown g h.below.size (fun b e => (World.ownsRow.lt h.own b e).1)⟩
theorem FstI.at {a : Option Addr} {m c : Nat} (h : FstI w0 F (.slice a m c) w) (hL : F.length ≤ 1000) : m ≤ c ∧ AnsAt w a m F := by
  obtain ⟨h1, h2, h3⟩ := row_at h.own (nxV_len F)
  exact ⟨h2, h1, by unfold maxLen; omega, h3, fun q hq => (h.fil q hq).below h.below⟩
end
end Go.Proofs.YtahoagbaadnihabGreatDoor
