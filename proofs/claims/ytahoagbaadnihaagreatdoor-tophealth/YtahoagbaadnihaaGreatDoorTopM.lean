/- Joined texts: TopCall, TopTold, TopOneM, TopMany, TopTwo, TopBoth. -/
import Derived.Test.YtahoagbaadnihaaGreatDoorTopK
import Derived.Test.YtahoagbaadnihaaGreatDoorShlDR
import Derived.Test.YtahoagbaadnihaaGreatDoorTopP
import Derived.Deep.RegionWith
import Derived.Deep.RegionHeld3
/- arrastop.run: acts put together and done over a new archive. -/
namespace Go.Proofs.YtahoagbaadnihaaGreatDoor
open Go.RowKit Go.Lib

/-- What the acts answer over a new archive of 48 sectors. -/
def run48 (l : List Ac) : Ha × List An := runS ⟨(arNew 48).1, 0, 0⟩ l
theorem arnew48 : (arNew 48).2 = 0 := congrArg Prod.snd (arc_new 48 (by omega) (by omega) (by omega) 0 (by omega)).1
theorem scr48 (l : List Ac) (h : l.length ≤ 200) : scrS 48 l = ((run48 l).2, (run48 l).1.A, 0) := by
  rw [scrS, if_pos arnew48, if_neg (by omega)]
  rfl
theorem run48_may (l : List Ac) : arMay (run48 l).1.A = true := run_may l _ (arnew_may 48 arnew48)
theorem run48_len (l : List Ac) : (run48 l).2.length = l.length := run_len _ l
/-- Answers and an array that come out. -/
def OutTr (w : World) (l : List Ac) (e : Ending) (w' : World) : Prop :=
  ∃ a n c x m d L, e = .returned (.tuple #[.slice a n c, .agg #[.slice x m d], .bool true]) ∧ (ans L = (run48 l).2 ∧ n ≤ c ∧ AnsAt w' a n L) ∧ (ArrAt w' x m (run48 l).1.A ∧ arMay (run48 l).1.A = true) ∧ Below w.heap.size w w'
theorem OutTr.drew {w w' : World} {l : List Ac} {e : Ending} (h : OutTr w l e w') : OutTr w l e w'.drew := by
  obtain ⟨a, n, c, x, m, d, L, h1, ⟨h2, h3, h4⟩, ⟨h5, h6⟩, h7⟩ := h
  exact ⟨a, n, c, x, m, d, L, h1, ⟨h2, h3, h4.below (Below.refl _ _).drew⟩, ⟨h5.below (Below.refl _ _).drew, h6⟩, h7.drew⟩
theorem ans_len {L : List Nx} {l : List Ac} (h : ans L = (run48 l).2) : L.length = l.length := by
  have := congrArg List.length h
  rw [run48_len, ans, List.length_map] at this
  exact this
theorem tr_out {w W w1 : World} {l : List Ac} {a x : Option Addr} {n c m d : Nat} {L : List Nx} (hl : l.length ≤ 200) (hW : Below w.heap.size w W) (hB : Below W.heap.size W w1) (hr : Own W w.heap.size 26 [.slice none 0 0]) (h2 : ans L = (run48 l).2) (h3 : AnsI w1 W.heap.size (.slice a n c) L) (h4 : ArrAt w1 x m (run48 l).1.A) :
    OutTr w l (.returned (.tuple #[.slice a n c, .agg #[.slice x m d], .bool true])) (w1.setCell ⟨w.heap.size, 0, none⟩ (.slice x m d)) := by
  have hlt := hr.lt
  have c1 := (Chg.refl (fun j => j = w.heap.size) w1).set (p := w.heap.size) rfl 0 (.slice x m d)
  have hL := ans_len h2
  have hm := run48_may l
  obtain ⟨k1, k2⟩ := (h3.chg c1 (by omega)).at (by unfold maxLen; omega)
  exact ⟨a, n, c, x, m, d, L, rfl, ⟨h2, k1, k2⟩, ⟨h4.keepz hm (keepz_set ((hr.below' hB).cell (i := 0) rfl) (.inr (.inr rfl)) _), hm⟩, (bel3 hW hB).setCell (Nat.le_refl _) _⟩
set_option maxHeartbeats 3200000 in
set_option maxRecDepth 8000 in
theorem trun_any (a : Option Addr) (n c : Nat) (P : List Part) (w : World) (H : RowAt w a (P.map partV)) (hn : n = P.length) (hp : P.length ≤ 100) (hok : ∀ q ∈ P, PartOk w q) (hm : cnt P ≤ 200) :
    Calls Tryz.prog 22 #[.slice a n c] w (OutTr w (partL P)) := by
  obtain ⟨W, hW⟩ : ∃ W, W = w.alloc (.cells #[.slice none 0 0] 26) := ⟨_, rfl⟩
  have hB : Below w.heap.size w W := by rw [hW]; go_grown
  have rb : Own W w.heap.size 26 [.slice none 0 0] := by rw [hW]; exact Own.made w 26 [.slice none 0 0]
  have C1 := hid (concat_any a n c P W (H.below hB) hn hp (fun q hq => (hok q hq).below hB) (by omega))
  have HH := hid (And.intro hB (And.intro rb (show (partL P).length ≤ 200 from hm)))
  clear H hn hp hok hm hB rb
  generalize partL P = l at C1 HH ⊢
  obtain ⟨post, hpost⟩ : ∃ post, post = OutTr w l := ⟨_, rfl⟩
  rw [← hpost]
  have HP := hid hpost
  clear hpost
  go_enter Tryz.func22, Tryz.ntmps22
  go_upto_region 1 with fail
  rw [← hW]
  clear hW
  go_wp2_with fail
  refine C1.out.mono ?_
  rintro _ w1 ⟨xa, xn, xc, L, rfl, hL, hl, g1⟩
  have hLl : L.length ≤ 200 := by rw [← acs_len, hl]; exact HH.out.2.2
  have hXn := (hL.at (by unfold maxLen; omega)).2.sn
  have C2 := hid (srun_any 48 xa xn xc L w1 (hL.at (by unfold maxLen; omega)).2)
  rw [hl, scr48 l HH.out.2.2] at C2
  have HX := hid (And.intro hXn (And.intro (show L.length = l.length by rw [← hl, acs_len]) g1))
  clear hL hl hLl g1 C1 hXn
  go_wp2_with fail
  refine C2.out.mono ?_
  rintro _ w2 ⟨ya, yn, yc, za, zm, zc, M, rfl, ⟨h2, h3⟩, h4, g2⟩
  have hML : xn = yn := by
    have e1 := ans_len h2
    have e2 := (h3.at (by unfold maxLen; have := HH.out.2.2; omega)).2.sn
    have e3 := HX.out.1
    have e4 := HX.out.2.1
    omega
  have bA : Below w2.heap.size w2 (w2.alloc (.cells #[.slice za zm zc] 26)) := (Below.refl _ w2).alloc (Nat.le_refl _) _
  have K := hid (tr_out (d := zc) HH.out.2.2 HH.out.1 (bel3 HX.out.2.2 (bel3 g2 bA)) HH.out.2.1 h2 ((h3.below bA).less (Nat.le_trans (Nat.le_refl _) HX.out.2.2.size)) (h4.below bA))
  have q0 := (HH.out.2.1.below' (bel3 HX.out.2.2 (bel3 g2 bA))).cell (i := 0) rfl
  have qf := (HH.out.2.1.below' (bel3 HX.out.2.2 (bel3 g2 bA))).free 0
  have s0 := (Own.made w2 26 [.slice za zm zc]).cell (i := 0) rfl
  have hyn := (h3.at (by unfold maxLen; have e1 := ans_len h2; have := HH.out.2.2; omega)).1
  subst hML
  clear h2 h3 h4 g2 bA C2 HX
  go_upto_region 3 with fail
  obtain ⟨V, hV⟩ : ∃ V, V = w2.alloc (.cells #[.slice za zm zc] 26) := ⟨_, rfl⟩
  have hV' : w2.alloc (.cells [Value.slice za zm zc].toArray 26) = V := hV.symm
  rw [hV'] at s0
  rw [← hV] at K q0 qf ⊢
  clear hV hV'
  have y0 := World.cell?_setCell_same V ⟨w.heap.size, 0, none⟩ (.slice za zm zc) q0
  go_region
  all_goals go_wp2
  all_goals refine bodyPost_ret (v := .tuple #[.slice ya xn yc, .agg #[.slice za zm zc], .bool true]) (by simp [results, Tryz.results22, go_sem, y0]) rfl ?_
  all_goals rw [HP.out]
  all_goals (first | exact K.out | exact OutTr.drew K.out)
end Go.Proofs.YtahoagbaadnihaaGreatDoor

/- arrastop.told: do the last answers tell all files that were added? -/
namespace Go.Proofs.YtahoagbaadnihaaGreatDoor
open Go.RowKit Go.Lib

def an1 (R : List An) (i : Nat) : An := R[i]?.getD ⟨0, [], [], 0, []⟩
theorem an1_of {L : List Nx} {i : Nat} {q : Nx} (h : L[i]? = some q) : an1 (ans L) i = q.r := by
  rw [an1, ans, List.getElem?_map, h]
  rfl
/-- An answer to a get tells the file, or that there is none. -/
def GetOk (c : Int) (q : An) (g : Fi) : Prop := (c = 0 ∧ q.code = 0 ∧ str q.data = g.d) ∨ (c ≠ 0 ∧ q.code = 6)
theorem tot_take : ∀ (Gs : List (List Fi)) (i : Nat), i < Gs.length → tot (Gs.take (i + 1)) = tot (Gs.take i) + (grp Gs i).length
  | [], i, h => absurd h (Nat.not_lt_zero _)
  | G :: r, 0, _ => by simp [tot, grp]
  | G :: r, i + 1, h => by
    have := tot_take r i (by simpa using h)
    have e : grp (G :: r) (i + 1) = grp r i := by simp [grp]
    rw [e, List.take_succ_cons, List.take_succ_cons]
    show G.length + tot (r.take (i + 1)) = G.length + tot (r.take i) + (grp r i).length
    rw [this]; omega
theorem tot_le : ∀ (Gs : List (List Fi)) (i : Nat), tot (Gs.take i) ≤ tot Gs
  | [], i => by simp
  | G :: r, 0 => by simp [tot]
  | G :: r, i + 1 => by
    have := tot_le r i
    rw [List.take_succ_cons]
    show G.length + tot (r.take i) ≤ G.length + tot r
    omega
theorem add_files {A : List Ax} {Gs : List (List Fi)} (h : acs A = Gs.map addAc) {i : Nat} {q : Ax} (hq : A[i]? = some q) : q.x.files = grp Gs i := by
  have e : (acs A)[i]? = some q.x := by rw [acs, List.getElem?_map, hq]; rfl
  rw [h, List.getElem?_map] at e
  rw [grp]
  cases g : Gs[i]? with
  | none => rw [g] at e; cases e
  | some G =>
    rw [g] at e
    have e' : addAc G = q.x := Option.some.inj e
    rw [← e']
    rfl
def OutYes (w : World) (e : Ending) (w' : World) : Prop := e = .returned (.bool true) ∧ Below w.heap.size w w'
set_option maxHeartbeats 3200000 in
set_option maxRecDepth 8000 in
theorem told_call (a : Option Addr) (n c : Nat) (L : List Nx) (b : Option Addr) (m d : Nat) (A : List Ax) (f : Option Addr) (k e : Nat) (Gs : List (List Fi)) (w : World) (H : AnsAt w a n L) (hc : n ≤ c) (HA : ActAt w b m A) (hA : acs A = Gs.map addAc) (hk : k = tot Gs) (hg : ∀ G ∈ Gs, 1 ≤ G.length) (hkn : k ≤ n) (hmn : m ≤ n) (hn : n ≤ 200)
    (T : ∀ i j, i < Gs.length → j < (grp Gs i).length → GetOk (an1 (ans L) i).code (an1 (ans L) (n - k + (tot (Gs.take i) + j))) (fi (grp Gs i) j)) :
    Calls Tryz.prog 25 #[.slice a n c, .slice b m d, .slice f k e] w (OutYes w) := by
  have hmG : m = Gs.length := by rw [HA.sn, ← acs_len, hA, List.length_map]
  by_cases k0 : k = 0
  · have hG : Gs = [] := by
      cases Gs with
      | nil => rfl
      | cons G r =>
        have := hg G List.mem_cons_self
        have e : tot (G :: r) = G.length + tot r := rfl
        omega
    subst hG
    have m0 : Hid (m ≤ 0) := by rw [hmG]; exact Nat.le_refl _
    have hsub : (n : Int) - (k : Int) = (n : Int) := by omega
    have FIN : Hid (OutYes w (.returned (.bool true)) w) := ⟨rfl, Below.refl _ _⟩
    have hkn : (n : Int) ≤ c := by omega
    clear H HA hA hk hg hmn T hmG k0
    go_enter Tryz.func25, Tryz.ntmps25
    cases a with
    | none =>
      go_upto_region 2 with fail
      clear hsub hkn
      go_upto_region 4 with fail
      go_loopw [8, 22] (fun s i wr => ∃ z : Nat, i = .int .i64 z ∧ s = .int .i64 0 ∧ z ≤ m ∧ Hid (OutYes w (.returned (.bool true)) wr)) (fun _ i _ => m - (intOf i).toNat)
      case atStart => exact ⟨0, rfl, rfl, Nat.zero_le _, FIN.out⟩
      case round =>
        clear FIN
        obtain ⟨z, rfl, rfl, _, FIN⟩ := hrel
        have hlt' : ¬ (z : Int) < m := by have := m0.out; omega
        go_wp2
        go_ret
        exact FIN.out
    | some ad =>
      obtain ⟨b3, o3, fr⟩ := ad
      by_cases hcn : c = n
      · have hcn := hcn
        go_upto_region 2 with fail
        clear hsub hkn
        go_upto_region 4 with fail
        go_loopw [8, 22] (fun s i wr => ∃ z : Nat, i = .int .i64 z ∧ s = .int .i64 0 ∧ z ≤ m ∧ Hid (OutYes w (.returned (.bool true)) wr)) (fun _ i _ => m - (intOf i).toNat)
        case atStart => exact ⟨0, rfl, rfl, Nat.zero_le _, FIN.out⟩
        case round =>
          clear FIN
          obtain ⟨z, rfl, rfl, _, FIN⟩ := hrel
          have hlt' : ¬ (z : Int) < m := by have := m0.out; omega
          go_wp2
          go_ret
          exact FIN.out
      · have hcn := hcn
        go_upto_region 2 with fail
        clear hsub hkn
        go_upto_region 4 with fail
        go_loopw [8, 22] (fun s i wr => ∃ z : Nat, i = .int .i64 z ∧ s = .int .i64 0 ∧ z ≤ m ∧ Hid (OutYes w (.returned (.bool true)) wr)) (fun _ i _ => m - (intOf i).toNat)
        case atStart => exact ⟨0, rfl, rfl, Nat.zero_le _, FIN.out⟩
        case round =>
          clear FIN
          obtain ⟨z, rfl, rfl, _, FIN⟩ := hrel
          have hlt' : ¬ (z : Int) < m := by have := m0.out; omega
          go_wp2
          go_ret
          exact FIN.out
  · obtain ⟨j, hj⟩ : ∃ j, j = n - k := ⟨_, rfl⟩
    have hsub : (n : Int) - (k : Int) = (j : Int) := by omega
    have hnj : n - j = k := by omega
    have hcj : ¬ c = j := by omega
    have hjn : (j : Int) ≤ n := by omega
    obtain ⟨_, b3, o3, _, rfl, _⟩ := H.one 0 (by omega)
    have HH := hid (And.intro H (And.intro HA (And.intro hA (And.intro hk (And.intro hmG hmn)))))
    have HT := hid T
    have HJ := hid (show n = j + k by omega)
    rw [← hj] at HT
    have hkb : k ≤ 200 := by omega
    clear H HA hA hk hg hkn hmn T hmG hj k0
    go_enter Tryz.func25, Tryz.ntmps25
    go_upto_region 2 with fail
    clear hsub
    go_upto_region 4 with fail
    go_loopw [8, 22] (fun s i wr => ∃ i' t : Nat, s = .int .i64 t ∧ i = .int .i64 i' ∧ i' ≤ m ∧ t ≤ k ∧ Hid (t = tot (Gs.take i')) ∧ Hid (Below w.heap.size w wr)) (fun _ i _ => m - (intOf i).toNat)
    case atStart => exact ⟨0, 0, rfl, rfl, Nat.zero_le _, Nat.zero_le _, rfl, Below.refl _ _⟩
    case round =>
      obtain ⟨i', t, rfl, rfl, him, htk, HI, HB⟩ := hrel
      by_cases hlt : i' < m
      · have hlt' : (i' : Int) < m := by omega
        have hin : (i' : Int) < n := by have := HH.out.2.2.2.2.2; omega
        obtain ⟨q, b1, o1, hq, rfl, hb1, hok, x0, x1, x2, x3, x4, x5, x6⟩ := (HH.out.2.1.below HB.out).one i' hlt
        have hqf := add_files HH.out.2.2.1 hq
        have hF := hok.1.2
        rw [hqf] at hF
        obtain ⟨⟨qk, qF, qs, qd, qn, qa, qb⟩, ⟨fa, fn, fc⟩⟩ := q
        dsimp only at x0 x1 x2 x3 x4 x5 x6 hF
        obtain ⟨V, hV⟩ : ∃ V, V = wr.alloc (.cells #[.int .i64 qk, .slice fa fn fc, .string qs, .int .i64 qd, .int .i64 qn, .int .i64 qa, .int .i64 qb] 47) := ⟨_, rfl⟩
        have gV : Below wr.heap.size wr V := by rw [hV]; exact (Below.refl _ wr).alloc (Nat.le_refl _) _
        have z1 := (Own.made wr 47 [.int .i64 qk, .slice fa fn fc, .string qs, .int .i64 qd, .int .i64 qn, .int .i64 qa, .int .i64 qb]).cell (i := 1) rfl
        have z1 : V.cell? ⟨wr.heap.size, 1, none⟩ = some (.slice fa fn fc) := by rw [hV]; exact z1
        have GV := hid (bel3 HB.out gV)
        have HFv := hid (hF.below gV)
        have hiG : i' < Gs.length := by have := HH.out.2.2.2.2.1; omega
        have HR := hid (And.intro hiG (show t + fn ≤ k by have h1 := tot_take Gs i' hiG; have h2 := tot_le Gs (i' + 1); have h3 := HI.out; have h4 := HH.out.2.2.2.1; have h5 := hF.sn; omega))
        have hfn : fn ≤ 200 := by have := HR.out.2; omega
        clear hq hb1 hok hqf hF gV hiG
        go_upto_region 6 with fail
        rw [← hV]
        clear hV x0 x1 x2 x3 x4 x5 x6
        go_upto_region 7 with fail
        clear z1
        go_loopw [8, 30] (fun s l wr' => ∃ l' t' : Nat, s = .int .i64 t' ∧ l = .int .i64 l' ∧ l' ≤ fn ∧ t' ≤ k ∧ Hid (t' = t + l') ∧ Hid (Below V.heap.size V wr')) (fun _ l _ => fn - (intOf l).toNat)
        case atStart => exact ⟨0, t, rfl, rfl, Nat.zero_le _, htk, rfl, Below.refl _ _⟩
        case round =>
          obtain ⟨l', t', rfl, rfl, hlf, htk', HI', HB'⟩ := hrel
          by_cases hlt2 : l' < fn
          · have hlt2' : (l' : Int) < fn := by omega
            obtain ⟨b2, o2, rfl, hb2, y0, y1⟩ := (HFv.out.below HB'.out).c l' hlt2
            generalize hgf : fi (grp Gs i') l' = g at y0 y1
            obtain ⟨gs, gd⟩ := g
            dsimp only at y0 y1
            obtain ⟨V2, hV2⟩ : ∃ V2, V2 = wr.alloc (.cells #[.string gs, .string gd] 86) := ⟨_, rfl⟩
            have gV2 : Below wr.heap.size wr V2 := by rw [hV2]; exact (Below.refl _ wr).alloc (Nat.le_refl _) _
            have hlg := HFv.out.sn
            have htk2 : t' < k := by have h1 := HR.out.2; have h2 := HI'.out; omega
            have htk2' : (t' : Int) < k := by omega
            have g3 := bel3 GV.out (bel3 HB'.out gV2)
            have TT := HT.out i' l' HR.out.1 (by omega)
            rw [hgf, ← HI.out, ← HI'.out] at TT
            obtain ⟨p, b4, o4, hp, e4, _, _, u0, _⟩ := (HH.out.1.below g3).one i' (by omega)
            cases e4
            obtain ⟨r, b5, o5, hr, e5, _, _, v0, v1, _⟩ := (HH.out.1.below g3).one (j + t') (by have := HJ.out; omega)
            cases e5
            rw [an1_of hp, an1_of hr] at TT
            rw [show o3 + (j + t') * 5 = o3 + j * 5 + t' * 5 by rw [Nat.add_mul]; omega] at v0 v1
            have HI2 := hid (show t' + 1 = t + (l' + 1) by have := HI'.out; omega)
            have z0 : V2.cell? ⟨wr.heap.size, 1, none⟩ = some (.string gd) := by rw [hV2]; simp [go_sem]
            have GV2 := hid (bel3 HB'.out gV2)
            clear gV2 hlg g3 hp hr hgf hb2
            go_upto_region 9 with fail
            rw [← hV2]
            clear hV2 y0 y1
            unfold GetOk at TT
            dsimp only at TT
            generalize p.r.code = pc at u0 TT
            generalize r.r.code = rc at v0 TT
            generalize str r.r.data = rd at v1 TT
            rcases TT with ⟨rfl, rfl, rfl⟩ | ⟨hpc, rfl⟩
            · go_quiet (fail)
              have GQ := hid (bel3 GV2.out (below_drewN (Below.refl V2.heap.size V2) nq))
              generalize V2.drewN nq = wq at GQ ⊢
              clear u0 v0 v1 z0 GV2 HI' HB'
              go_wp2
              go_roundw
              case rel => exact ⟨l' + 1, t' + 1, by go_num, by go_num, by omega, by omega, HI2.out, GQ.out⟩
              case measure => simp [intOf]; omega
            · have p1 : (pc == 0) = false := beq_eq_false_iff_ne.2 hpc
              have p2 : (pc != 0) = true := bne_iff_ne.2 hpc
              go_quiet (fail)
              have GQ := hid (bel3 GV2.out (below_drewN (Below.refl V2.heap.size V2) nq))
              generalize V2.drewN nq = wq at GQ ⊢
              clear u0 v0 v1 z0 GV2 HI' HB' p1 p2
              go_wp2
              go_roundw
              case rel => exact ⟨l' + 1, t' + 1, by go_num, by go_num, by omega, by omega, HI2.out, GQ.out⟩
              case measure => simp [intOf]; omega
          · have hlt2' : ¬ (l' : Int) < fn := by omega
            have NX := hid (And.intro (show t' = tot (Gs.take (i' + 1)) by have h1 := tot_take Gs i' HR.out.1; have h2 := HI.out; have h3 := HI'.out; have h4 := HFv.out.sn; omega) (bel3 GV.out HB'.out))
            clear HI' HB' HI HB
            go_wp2
            go_roundw
            case rel => exact ⟨i' + 1, t', rfl, by go_num, by omega, htk', NX.out.1, NX.out.2⟩
            case measure => simp [intOf]; omega
      · have hlt' : ¬ (i' : Int) < m := by omega
        have FIN : Hid (OutYes w (.returned (.bool true)) wr) := ⟨rfl, HB.out⟩
        clear HI HB
        go_wp2
        go_ret
        exact FIN.out
end Go.Proofs.YtahoagbaadnihaaGreatDoor

/- What the last answers of a script tell, purely; contracts of small pieces that the theorems of the whole share. -/
namespace Go.Proofs.YtahoagbaadnihaaGreatDoor
open Go.RowKit Go.Lib

theorem flatG_at : ∀ (Gs : List (List Fi)) (i j : Nat), i < Gs.length → j < (grp Gs i).length → Gs.flatten[tot (Gs.take i) + j]? = some (fi (grp Gs i) j)
  | [], i, j, h, _ => absurd h (Nat.not_lt_zero _)
  | G :: r, 0, j, _, hj => by
    have hj' : j < G.length := hj
    rw [List.take_zero, show tot [] + j = j by show 0 + j = j; omega, List.flatten_cons, List.getElem?_append_left hj', show grp (G :: r) 0 = G from rfl, fi_lt G j hj', List.getElem?_eq_getElem hj']
  | G :: r, i + 1, j, h, hj => by
    have e : grp (G :: r) (i + 1) = grp r i := by simp [grp]
    rw [e] at hj ⊢
    rw [List.take_succ_cons, List.flatten_cons, show tot (G :: r.take i) + j = G.length + (tot (r.take i) + j) by show G.length + tot (r.take i) + j = _; omega, List.getElem?_append_right (by omega), Nat.add_sub_cancel_left]
    exact flatG_at r i j (by simpa using h) hj
theorem grp_mem {Gs : List (List Fi)} {i j : Nat} (h : j < (grp Gs i).length) : fi (grp Gs i) j ∈ grp Gs i := by
  rw [fi_lt _ j h]
  exact List.getElem_mem h
def gotA (A : Ar) (f : Fi) : An := ⟨(getA A f.s).2, (getA A f.s).1, [], 0, []⟩
theorem gets_got (h : Ha) (L : List Fi) : runS h (L.map getAc) = (h, L.map (gotA h.A)) := gets_run h L
theorem told_of (Gs : List (List Fi)) (cs : List Int) (A : Ar) (pre R : List An) (hR : R = pre ++ Gs.flatten.map (gotA A)) (hp : ∀ i, i < Gs.length → (an1 R i).code = cod cs i) (hg : ∀ i f, f ∈ grp Gs i → getA A f.s = gotF (cod cs i) f) (n : Nat) (hn : n = R.length) :
    ∀ i j, i < Gs.length → j < (grp Gs i).length → GetOk (an1 R i).code (an1 R (n - tot Gs + (tot (Gs.take i) + j))) (fi (grp Gs i) j) := by
  intro i j hi hj
  have hl : n - tot Gs = pre.length := by rw [hn, hR, List.length_append, List.length_map, tot_flat]; omega
  have e : an1 R (n - tot Gs + (tot (Gs.take i) + j)) = gotA A (fi (grp Gs i) j) := by
    rw [hl, an1, hR, List.getElem?_append_right (by omega), Nat.add_sub_cancel_left, List.getElem?_map, flatG_at Gs i j hi hj]
    rfl
  rw [hp i hi, e]
  have hx := hg i _ (grp_mem hj)
  unfold gotF at hx
  by_cases c : cod cs i = 0
  · rw [if_pos c] at hx
    exact .inl ⟨c, by rw [gotA, hx], by show str (getA A _).1 = _; rw [hx]; exact str_of _⟩
  · rw [if_neg c] at hx
    exact .inr ⟨c, by rw [gotA, hx]⟩
theorem an1_left {cs : List Int} {i : Nat} (r : List An) (h : i < cs.length) : (an1 (cs.map anE ++ r) i).code = cod cs i := by
  rw [an1, List.getElem?_append_left (by rw [List.length_map]; exact h), List.getElem?_map, cod]
  rw [List.getElem?_eq_getElem h]
  rfl
/-- Whatever happens to one device all files are there. -/
theorem one_told (Gs : List (List Fi)) (hc : Chain 0 Gs) (ht : tot Gs ≤ 8) (k : Nat) (hk : k < 3) (H : List Raw4) (m n : Nat) (hn : n = (Gs.map addAc ++ ((hurtsOf H k 48 m).map hurtAc ++ Gs.flatten.map getAc)).length) :
    ∀ i j, i < Gs.length → j < (grp Gs i).length → GetOk (an1 (run48 (Gs.map addAc ++ ((hurtsOf H k 48 m).map hurtAc ++ Gs.flatten.map getAc))).2 i).code (an1 (run48 (Gs.map addAc ++ ((hurtsOf H k 48 m).map hurtAc ++ Gs.flatten.map getAc))).2 (n - tot Gs + (tot (Gs.take i) + j))) (fi (grp Gs i) j) := by
  obtain ⟨e0, a0⟩ := arc_new 48 (by omega) (by omega) (by omega) k hk
  obtain ⟨all', C', D', E', cs, e1, l1, l2, a1, _⟩ := adds_run hk 0 0 Gs _ _ _ _ _ 0 a0 hc (by omega)
  have l3 : all'.length = 48 := by rw [l2]; simp [zeroRows]
  have hok : HOk k (dn all' k) [] (hurtsOf H k 48 m) := by
    have q := hok_of a1.holds.alls k H m
    rw [l3] at q
    exact q
  obtain ⟨D2, e2, w2⟩ := hurts_with a1.holds.alls k hk [] E' a1.worn 0 0 _ hok
  have a2 := a1.turn _ D2 w2
  have eR : (run48 (Gs.map addAc ++ ((hurtsOf H k 48 m).map hurtAc ++ Gs.flatten.map getAc))).2 = cs.map anE ++ ((hurtsOf H k 48 m).map (fun _ => anE 0) ++ Gs.flatten.map (gotA (With all' k D2))) := by
    have e0' : (arNew ((48 : Nat) : Int)).1 = With (zeroRows 48) k (whole (dn (zeroRows 48) k) (ds k) (dp (zeroRows 48) k)) := congrArg Prod.fst e0
    rw [run48, show (arNew 48).1 = _ from e0', run_app, e1]
    dsimp only
    rw [run_app, e2]
    dsimp only
    rw [gets_got]
  refine told_of Gs cs (With all' k D2) (cs.map anE ++ (hurtsOf H k 48 m).map (fun _ => anE 0)) _ (by rw [eR, List.append_assoc]) (fun i hi => by rw [eR]; exact an1_left _ (by rw [l1]; exact hi)) (fun i f hf => told_any Gs cs l1 hc (by omega) (by have := a2.holds; rwa [List.nil_append] at this) (a2.same hk) i f hf) n (by rw [hn, run48_len])
set_option maxHeartbeats 400000 in
theorem Picked_any (x m : Int) (w : World) (hx : i64Ok x) (hm : 0 < m ∧ m ≤ 9223372036854775807) :
    Calls Tryz.prog 23 #[.int .i64 x, .int .i64 m] w fun e w' => e = .returned (.int .i64 (pick x m)) ∧ w' = w := by
  go_enter Tryz.func23, Tryz.ntmps23
  go_wp2_with (go_at_call 17; refine (picked_gen _ _ _ hx hm).mono ?_; rintro _ w9 ⟨rfl, h9⟩; (have h8 := h9.symm); subst h8)
  go_ret
  exact ⟨rfl, rfl⟩
theorem nat_pick (x : Int) : ∃ K : Nat, pick x 3 = (K : Int) ∧ K < 3 := by
  have := pick_bd x 3 (by omega)
  exact ⟨(pick x 3).toNat, by omega, by omega⟩
theorem hurtsgo_le (d m : Int) : ∀ (l : List Raw4) (T : List Int), (hurtsGo d m l T).length ≤ l.length
  | [], _ => Nat.le_refl _
  | r :: l, T => by
    rw [hurtsGo_cons]
    have h := hurtsgo_le d m l
    split
    · have := h T; simp only [List.length_cons]; omega
    · split
      · have := h (pick r.a m :: T); simp only [List.length_cons]; omega
      · split
        · have := h T; simp only [List.length_cons]; omega
        · have := h T; simp only [List.length_cons]; omega
theorem hurts_le (l : List Raw4) (d m : Int) (most : Nat) : (hurtsOf l d m most).length ≤ most := by
  unfold hurtsOf
  refine Nat.le_trans (hurtsgo_le _ _ _ _) ?_
  rw [List.length_take]
  omega
theorem chain_ne : ∀ (Gs : List (List Fi)) (m : Nat), Chain m Gs → ∀ G ∈ Gs, 1 ≤ G.length
  | [], _, _, _, h => by cases h
  | F :: r, m, h, G, hG => by
    rcases List.mem_cons.1 hG with e | e
    · rw [e]; exact h.1.2.1
    · exact chain_ne r _ h.2 G e
/-- Three lists of acts, laid as one argument. -/
theorem three_laid {w : World} {A B C : Part} {l : List Ac} (hA : PartOk w A) (hB : PartOk w B) (hC : PartOk w C) (hl : acs A.L ++ (acs B.L ++ acs C.L) = l) (hm : l.length ≤ 200) :
    Calls Tryz.prog 22 #[.slice (some ⟨w.heap.size, 0, none⟩) 3 3] (w.alloc (.cells #[partV A, partV B, partV C] 22)) (OutTr (w.alloc (.cells #[partV A, partV B, partV C] 22)) l) := by
  have g : Below w.heap.size w (w.alloc (.cells #[partV A, partV B, partV C] 22)) := (Below.refl _ w).alloc (Nat.le_refl _) _
  have e : partL [A, B, C] = l := by
    rw [← hl]
    simp [partL]
  rw [← e]
  refine trun_any (some ⟨w.heap.size, 0, none⟩) 3 3 [A, B, C] _ (Own.made w 22 [partV A, partV B, partV C]).row rfl (by simp) (fun q hq => ?_) (by rw [cnt, e]; exact hm)
  simp only [List.mem_cons, List.not_mem_nil, or_false] at hq
  rcases hq with rfl | rfl | rfl
  · exact hA.below g
  · exact hB.below g
  · exact hC.below g
end Go.Proofs.YtahoagbaadnihaaGreatDoor

/- Lists of acts, laid as one argument of arrastop.run; a scrub between two hurts, purely. -/
namespace Go.Proofs.YtahoagbaadnihaaGreatDoor
open Go.RowKit Go.Lib

theorem laid_run {w : World} (P : List Part) (hp : ∀ q ∈ P, PartOk w q) (hc : P.length ≤ 100) {l : List Ac} (hl : partL P = l) (hm : l.length ≤ 200) (n : Nat) (hn : n = P.length) :
    Calls Tryz.prog 22 #[.slice (some ⟨w.heap.size, 0, none⟩) n n] (w.alloc (.cells (P.map partV).toArray 22)) (OutTr (w.alloc (.cells (P.map partV).toArray 22)) l) := by
  have g : Below w.heap.size w (w.alloc (.cells (P.map partV).toArray 22)) := (Below.refl _ w).alloc (Nat.le_refl _) _
  rw [← hl]
  exact trun_any (some ⟨w.heap.size, 0, none⟩) n n P _ (Own.made w 22 (P.map partV)).row hn hc (fun q hq => (hp q hq).below g) (by rw [cnt, hl]; exact hm)
/-- Acts with no files, written out in place. -/
theorem acts_laid (w : World) (L : List Ac) (hf : ∀ x ∈ L, x.files = [] ∧ x.name.size ≤ maxLen) (hL : L.length ≤ 1000) :
    PartOk (w.alloc (.cells (axV (L.map fun x => ⟨x, nilS⟩)).toArray 47)) ⟨⟨some ⟨w.heap.size, 0, none⟩, L.length, L.length⟩, L.map fun x => ⟨x, nilS⟩⟩ := by
  refine ⟨Nat.le_refl _, ⟨by simp, by show L.length ≤ maxLen; unfold maxLen; omega, (Own.made w 47 _).row, fun q hq => ?_⟩⟩
  obtain ⟨x, hx, rfl⟩ := List.mem_map.1 hq
  exact axOk_nil (hf x hx).1 (hf x hx).2
theorem acs_nil (L : List Ac) : acs (L.map fun x => (⟨x, nilS⟩ : Ax)) = L := by
  rw [acs, List.map_map]
  exact List.map_id L
theorem zeros48 : (zeroRows 48).length = 48 := by simp [zeroRows]
/-- A scrub of all sectors of an array of which one device is hurt. -/
theorem scrub48 {all : List (List UInt8)} (h : Alls all) (h48 : all.length = 48) (k : Nat) (hk : k < 3) (S : List Int) (D : Dv) (hD : Worn (dn all k) (ds k) (dp all k) S D) : ∃ x, actS ⟨With all k D, 0, 0⟩ (scrubAc 48) = (⟨goodA all, 0, 1⟩, x) := by
  obtain ⟨m, e⟩ := scrub_good h k hk S D hD 0 0 (by omega) (by omega) (by omega)
  rw [h48] at e
  have e' : arStep (With all k D) 0 0 48 = ⟨goodA all, 0, 0 + 1, m, [], 0⟩ := e
  refine ⟨⟨0, [], [], m, []⟩, ?_⟩
  rw [act_scrub, actScrub]
  dsimp only
  rw [e']
  rfl
theorem then_told (Gs : List (List Fi)) (hc : Chain 0 Gs) (ht : tot Gs ≤ 8) (k : Nat) (hk : k < 3) (e : Nat) (he : e < 3) (H H2 : List Raw4) (m m2 n : Nat) (hn : n = (Gs.map addAc ++ ((hurtsOf H k 48 m).map hurtAc ++ ([scrubAc 48] ++ ((hurtsOf H2 e 48 m2).map hurtAc ++ Gs.flatten.map getAc)))).length) :
    ∀ i j, i < Gs.length → j < (grp Gs i).length → GetOk (an1 (run48 (Gs.map addAc ++ ((hurtsOf H k 48 m).map hurtAc ++ ([scrubAc 48] ++ ((hurtsOf H2 e 48 m2).map hurtAc ++ Gs.flatten.map getAc))))).2 i).code (an1 (run48 (Gs.map addAc ++ ((hurtsOf H k 48 m).map hurtAc ++ ([scrubAc 48] ++ ((hurtsOf H2 e 48 m2).map hurtAc ++ Gs.flatten.map getAc))))).2 (n - tot Gs + (tot (Gs.take i) + j))) (fi (grp Gs i) j) := by
  obtain ⟨e0, a0⟩ := arc_new 48 (by omega) (by omega) (by omega) k hk
  obtain ⟨all', C', D', E', cs, e1, l1, l2, a1, _⟩ := adds_run hk 0 0 Gs _ _ _ _ _ 0 a0 hc (by omega)
  have l3 : all'.length = 48 := by rw [l2]; exact zeros48
  have hok : HOk k (dn all' k) [] (hurtsOf H k 48 m) := by
    have q := hok_of a1.holds.alls k H m
    rw [l3] at q
    exact q
  obtain ⟨D2, e2, w2⟩ := hurts_with a1.holds.alls k hk [] E' a1.worn 0 0 _ hok
  obtain ⟨x, e3⟩ := scrub48 a1.holds.alls l3 k hk _ D2 w2
  have a3 := a1.fresh e
  have hok2 : HOk e (dn all' e) [] (hurtsOf H2 e 48 m2) := by
    have q := hok_of a1.holds.alls e H2 m2
    rw [l3] at q
    exact q
  obtain ⟨D4, e4, w4⟩ := hurts_with a1.holds.alls e he [] _ a3.worn 0 1 _ hok2
  have a4 := a3.turn _ D4 w4
  rw [with_self e he] at e4
  have eR : (run48 (Gs.map addAc ++ ((hurtsOf H k 48 m).map hurtAc ++ ([scrubAc 48] ++ ((hurtsOf H2 e 48 m2).map hurtAc ++ Gs.flatten.map getAc))))).2 = cs.map anE ++ ((hurtsOf H k 48 m).map (fun _ => anE 0) ++ ([x] ++ ((hurtsOf H2 e 48 m2).map (fun _ => anE 0) ++ Gs.flatten.map (gotA (With all' e D4))))) := by
    have e0' : (arNew ((48 : Nat) : Int)).1 = With (zeroRows 48) k (whole (dn (zeroRows 48) k) (ds k) (dp (zeroRows 48) k)) := congrArg Prod.fst e0
    rw [run48, show (arNew 48).1 = _ from e0', run_app, e1]
    dsimp only
    rw [run_app, e2]
    dsimp only
    rw [run_app, show runS ⟨With all' k D2, 0, 0⟩ [scrubAc 48] = (⟨goodA all', 0, 1⟩, [x]) by rw [runS, e3]; rfl]
    dsimp only
    rw [run_app, e4]
    dsimp only
    rw [gets_got]
  refine told_of Gs cs (With all' e D4) (cs.map anE ++ ((hurtsOf H k 48 m).map (fun _ => anE 0) ++ ([x] ++ (hurtsOf H2 e 48 m2).map (fun _ => anE 0)))) _ (by rw [eR]; simp only [List.append_assoc]) (fun i hi => by rw [eR]; exact an1_left _ (by rw [l1]; exact hi)) (fun i f hf => told_any Gs cs l1 hc (by omega) (by have := a4.holds; rwa [List.nil_append] at this) (a4.same he) i f hf) n (by rw [hn, run48_len])
end Go.Proofs.YtahoagbaadnihaaGreatDoor

/- Scripts that hurt two devices, purely. -/
namespace Go.Proofs.YtahoagbaadnihaaGreatDoor
open Go.RowKit Go.Lib

theorem two_hurts (Gs : List (List Fi)) (hc : Chain 0 Gs) (ht : tot Gs ≤ 8) (K : Nat) (hK : K < 3) (E : Nat) (hE : E < 3) (hne : E ≠ K) (H1 H2 : List Raw4) (m : Nat) :
    ∃ A2 T cs all' C' D', run48 (Gs.map addAc ++ ((hurtsOf H1 K 48 m).map hurtAc ++ (hurtsOf H2 E 48 m).map hurtAc)) = (⟨A2, 0, 0⟩, cs.map anE ++ ((hurtsOf H1 K 48 m).map (fun _ => anE 0) ++ (hurtsOf H2 E 48 m).map (fun _ => anE 0))) ∧ WornA all' T A2 ∧ cs.length = Gs.length ∧ Holds all' C' D' (okG (Gs.zip cs)) ∧ all'.length = 48 := by
  obtain ⟨e0, a0⟩ := arc_new 48 (by omega) (by omega) (by omega) K hK
  obtain ⟨all', C', D', E', cs, e1, l1, l2, a1, _⟩ := adds_run hK 0 0 Gs _ _ _ _ _ 0 a0 hc (by omega)
  have l3 : all'.length = 48 := by rw [l2]; exact zeros48
  have hok : HOk K (dn all' K) [] (hurtsOf H1 K 48 m) := by
    have q := hok_of a1.holds.alls K H1 m
    rw [l3] at q
    exact q
  have hok2 : HOk E (dn all' E) [] (hurtsOf H2 E 48 m) := by
    have q := hok_of a1.holds.alls E H2 m
    rw [l3] at q
    exact q
  have w0 := worn_with a1.holds.alls K hK [] E' a1.worn
  obtain ⟨D2, e2, w2⟩ := hurts_run K hK 0 0 (hurtsOf H1 K 48 m) _ _ w0 (by rw [if_pos rfl]; exact hok)
  have w3 := w0.set K hK _ D2 w2
  obtain ⟨D4, e4, w4⟩ := hurts_run E hE 0 0 (hurtsOf H2 E 48 m) _ _ w3 (by rw [if_neg hne, if_neg hne]; exact hok2)
  refine ⟨_, _, cs, all', C', D', ?_, w3.set E hE _ D4 w4, l1, by have := a1.holds; rwa [List.nil_append] at this, l3⟩
  have e0' : (arNew ((48 : Nat) : Int)).1 = With (zeroRows 48) K (whole (dn (zeroRows 48) K) (ds K) (dp (zeroRows 48) K)) := congrArg Prod.fst e0
  rw [run48, show (arNew 48).1 = _ from e0', run_app, e1]
  dsimp only
  rw [run_app, e2]
  dsimp only
  rw [e4]
theorem health_told (Gs : List (List Fi)) (hc : Chain 0 Gs) (ht : tot Gs ≤ 8) (K : Nat) (hK : K < 3) (E : Nat) (hE : E < 3) (hne : E ≠ K) (H1 H2 : List Raw4) (m : Nat) (l : List Ac) (hl : l = Gs.map addAc ++ (((hurtsOf H1 K 48 m).map hurtAc ++ (hurtsOf H2 E 48 m).map hurtAc) ++ ([healthAc] ++ Gs.flatten.map getAc))) :
    (an1 (run48 l).2 (l.length - tot Gs - 1)).code = 0 ∧ ((an1 (run48 l).2 (l.length - tot Gs - 1)).gone = [] → ∀ i j, i < Gs.length → j < (grp Gs i).length → GetOk (an1 (run48 l).2 i).code (an1 (run48 l).2 (l.length - tot Gs + (tot (Gs.take i) + j))) (fi (grp Gs i) j)) := by
  obtain ⟨A2, T, cs, all', C', D', e, w, l1, h, l3⟩ := two_hurts Gs hc ht K hK E hE hne H1 H2 m
  have hl2 : l = (Gs.map addAc ++ ((hurtsOf H1 K 48 m).map hurtAc ++ (hurtsOf H2 E 48 m).map hurtAc)) ++ ([healthAc] ++ Gs.flatten.map getAc) := by rw [hl]; simp only [List.append_assoc]
  have hx : actS ⟨A2, 0, 0⟩ healthAc = (⟨A2, 0, 0⟩, ⟨0, [], [], badN A2 (Go.Proofs.YtahoagbaadnihaaGreatDoor.many A2), goneOf (Go.Proofs.YtahoagbaadnihaaGreatDoor.many A2) (lostAt A2)⟩) := by
    rw [act_health, arHealth, if_pos w.may]
  obtain ⟨x, hxe⟩ : ∃ x : An, x = ⟨0, [], [], badN A2 (Go.Proofs.YtahoagbaadnihaaGreatDoor.many A2), goneOf (Go.Proofs.YtahoagbaadnihaaGreatDoor.many A2) (lostAt A2)⟩ := ⟨_, rfl⟩
  rw [← hxe] at hx
  have eR : (run48 l).2 = (cs.map anE ++ ((hurtsOf H1 K 48 m).map (fun _ => anE 0) ++ (hurtsOf H2 E 48 m).map (fun _ => anE 0))) ++ ([x] ++ Gs.flatten.map (gotA A2)) := by
    rw [hl2, run48, run_app]
    rw [run48] at e
    rw [e]
    dsimp only
    rw [run_app, show runS ⟨A2, 0, 0⟩ [healthAc] = (⟨A2, 0, 0⟩, [x]) by rw [runS, hx]; rfl]
    dsimp only
    rw [gets_got]
  have hlen : (run48 l).2.length = l.length := run48_len l
  have hpre : l.length - tot Gs - 1 = (cs.map anE ++ ((hurtsOf H1 K 48 m).map (fun _ => anE 0) ++ (hurtsOf H2 E 48 m).map (fun _ => anE 0))).length := by
    rw [← hlen, eR]
    have := tot_flat Gs
    simp only [List.length_append, List.length_map, List.length_singleton]
    omega
  have hat : an1 (run48 l).2 (l.length - tot Gs - 1) = x := by
    rw [hpre, eR, an1, List.getElem?_append_right (Nat.le_refl _), Nat.sub_self]
    rfl
  rw [hat]
  refine ⟨by rw [hxe], fun hg => ?_⟩
  rw [hxe] at hg
  exact told_of Gs cs A2 ((cs.map anE ++ ((hurtsOf H1 K 48 m).map (fun _ => anE 0) ++ (hurtsOf H2 E 48 m).map (fun _ => anE 0))) ++ [x]) _ (by rw [eR]; simp only [List.append_assoc]) (fun i hi => by rw [eR]; simp only [List.append_assoc]; exact an1_left _ (by rw [l1]; exact hi)) (fun i f hf => told_any Gs cs l1 hc (by omega) h (health_same w.tru hg) i f hf) l.length hlen.symm
end Go.Proofs.YtahoagbaadnihaaGreatDoor

/- arrastop.both: two devices hurt. -/
namespace Go.Proofs.YtahoagbaadnihaaGreatDoor
open Go.RowKit Go.Lib

/-- append of acts, as one step of a region that draws its order. -/
theorem step_appendX {ops : Array Oper} {o : Oper} {a : Act} {w : World} {K : Act → World → Prop} {Q : Exit → Act → World → Prop} {E : Prop}
    (hg : o.guard = none) (sl x : Operand) (hop : o.op = Op.call { callee := Callee.builtin Builtin.append, args := #[sl, x], argTypes := #[22, 22] })
    (base : Nat) (v : Value) (L M : List Ax) (hs : a.eval sl = v) (H : ActI w base v L) (xa : Option Addr) (n2 c2 : Nat) (hx : a.eval x = .slice xa n2 c2) (hn : n2 = M.length) (hc : M = [] ∨ ∃ ad, xa = some ad ∧ ∀ j u, (axV M)[j]? = some u → w.cell? (ad.add j) = some u) (hok : ∀ q ∈ M, AxOk w q ∧ Off v.ownBlock q.f.a q.f.n) (hb : L.length + M.length ≤ 100000) (hbase : base ≤ w.heap.size)
    (hK : ∀ a' n' c' w', Hid (n' = (L ++ M).length) → ActI w' base (.slice a' n' c') (L ++ M) → w.grownBy w' v.ownBlock → K (a.put o.dst (.slice a' n' c')) w') :
    if Region.wanted o (yielded ops a.tmps) = true then Oper.wp Tryz.prog o a w K Q else E := by
  have hw : Region.wanted o (yielded ops a.tmps) = true := by simp [Region.wanted, hg]
  rw [if_pos hw]
  subst hn
  obtain ⟨a', n', c', w', hr, h1, h2, h3⟩ := run_appendX (ty := o.type) H M xa c2 hc hok hb hbase
  unfold Oper.wp
  simp [execOp, hop, resolve, invoke, builtin, hs, hx, hr, Result.andThen]
  exact hK _ _ _ w' h1 h2 h3
/-- The two rows, put together. -/
theorem both_fin {w W w' : World} {va v : Value} {L M : List Ax} {l1 l2 : List Ac} (hb : Below w.heap.size w W) (h1 : acs L = l1) (h2 : acs M = l2) (a : Option Addr) (n c : Nat) (hv : v = .slice a n c) (base : Nat) (hbase : w.heap.size ≤ base) (hI : ActI w' base v (L ++ M)) (hL : ActI W base va L) (g : W.grownBy w' va.ownBlock) : OutX w (l1 ++ l2) (.returned v) w' := by
  subst hv
  exact ⟨a, n, c, L ++ M, rfl, hI.down hbase, by rw [acs_app, h1, h2], hb.grown g hb.size (fun b e => Nat.le_trans hbase (World.ownsRow.lt hL.own b e).1)⟩
theorem wrap_next {K : Nat} (h : K < 3) : IntKind.i64.wrap ((K : Int) + 1) = (K : Int) + 1 := by
  rw [IntKind.wrap_i64]
  omega
theorem drew_sz (w : World) : w.drew.heap.size = w.heap.size := rfl
theorem tmod_next {K E : Nat} (h : K < 3) (hE : E = (K + 1) % 3) : ((K : Int) + 1).tmod 3 = (E : Int) := by
  subst hE
  match K, h with
  | 0, _ => rfl
  | 1, _ => rfl
  | 2, _ => rfl
theorem half_ne {m d h : Nat} (hh : h = m / 2) (h0 : 0 < m) (hmd : m ≤ d) : ¬ d = h := by omega
theorem half_zero {m h : Nat} (hh : h = m / 2) (h0 : ¬ 0 < m) : h = 0 ∧ m - h = 0 ∧ m = 0 := by omega
/-- Both rows, when the second one is made. -/
theorem both_two {w w5 w6 : World} {B : Nat} {ha ia : Option Addr} {hn hc im ic : Nat} {L M : List Ax} {l1 l2 : List Ac} (hB : B = w.heap.size) (hL : ActI w5 B (.slice ha hn hc) L) (h1 : acs L = l1) (hM : ActI w6 w5.heap.size (.slice ia im ic) M) (h2 : acs M = l2) (k1 : l1.length ≤ 30) (k2 : l2.length ≤ 30) (hz : ∀ x ∈ l2, x.files = []) (g5 : Below w.heap.size w w5) (g6 : Below w5.heap.size w5 w6) :
    ActI w6 w.heap.size (.slice ha hn hc) L ∧ im = M.length ∧ (M = [] ∨ ∃ ad, ia = some ad ∧ ∀ j u, (axV M)[j]? = some u → w6.cell? (ad.add j) = some u) ∧ (∀ q ∈ M, AxOk w6 q ∧ Off (Value.slice ha hn hc).ownBlock q.f.a q.f.n) ∧ L.length + M.length ≤ 100000 ∧ w.heap.size ≤ w6.heap.size ∧
      ∀ a7 n7 c7 w7, ActI w7 w.heap.size (.slice a7 n7 c7) (L ++ M) → w6.grownBy w7 (Value.slice ha hn hc).ownBlock → OutX w (l1 ++ l2) (.returned (.slice a7 n7 c7)) w7 := by
  subst hB
  have e1 := congrArg List.length h1
  have e2 := congrArg List.length h2
  rw [acs_len] at e1 e2
  have hMt := (hM.at (by unfold maxLen; omega)).2
  have hL6 := hL.below g6
  refine ⟨hL6, hMt.sn, actAt_src hMt, fun q hq => ⟨hMt.ok q hq, ?_⟩, by omega, Nat.le_trans g5.size g6.size, fun a7 n7 c7 w7 hI hg => both_fin (bel3 g5 g6) h1 h2 a7 n7 c7 rfl w.heap.size (Nat.le_refl _) hI hL6 hg⟩
  intro h0
  have hf := (hMt.ok q hq).1.2.sn
  rw [hz q.x (by rw [← h2]; exact List.mem_map.2 ⟨q, hq, rfl⟩)] at hf
  have : q.f.n = 0 := hf
  omega
set_option maxHeartbeats 3200000 in
set_option maxRecDepth 8000 in
theorem both_any (b : Option Addr) (m d : Nat) (S : List Raw4) (x : Int) (most K : Nat) (w : World) (hx : i64Ok x) (hK : pick x 3 = (K : Int)) (hK3 : K < 3) (H : RawsAt w b m S) (hmd : m ≤ d) (hmost : most ≤ 30) :
    Calls Tryz.prog 26 #[.slice b m d, .int .i64 x, .int .i64 most] w (OutX w ((hurtsOf (S.take (m / 2)) K 48 most).map hurtAc ++ (hurtsOf (S.drop (m / 2)) ((K + 1) % 3 : Nat) 48 most).map hurtAc)) := by
  have CP := hid (Picked_any x 3 w hx (by omega))
  rw [hK] at CP
  obtain ⟨h, hh⟩ : ∃ h, h = m / 2 := ⟨_, rfl⟩
  obtain ⟨E, hE⟩ : ∃ E, E = (K + 1) % 3 := ⟨_, rfl⟩
  rw [← hh, ← hE]
  have q1 : (m : Int) / 2 = (h : Int) := by omega
  have q2 : ((K : Int) + 1) % 3 = (E : Int) := by omega
  have q3 : IntKind.i64.wrap ((K : Int) + 1) = (K : Int) + 1 := wrap_next hK3
  have hE3 : E < 3 := by omega
  have hhm : h ≤ m := by omega
  have hnb := H.nb
  unfold maxLen at hnb
  have qw : wrap64 (h : Int) = (h : Int) := by unfold wrap64; omega
  have p1 : (0 : Int) ≤ (h : Int) := Int.natCast_nonneg h
  have p2 : (h : Int) ≤ (m : Int) := Int.ofNat_le.2 hhm
  have p3 : (h : Int) ≤ (d : Int) := Int.ofNat_le.2 (Nat.le_trans hhm hmd)
  have p4 : (m : Int) ≤ (d : Int) := Int.ofNat_le.2 hmd
  have h1' := hurts_le (S.take h) K 48 most
  have h2' := hurts_le (S.drop h) E 48 most
  have hl1 : ((hurtsOf (S.take h) K 48 most).map hurtAc).length ≤ 30 := by rw [List.length_map]; omega
  have hl2 : ((hurtsOf (S.drop h) E 48 most).map hurtAc).length ≤ 30 := by rw [List.length_map]; omega
  have HL := hid (And.intro hl1 (And.intro hl2 (show ∀ x ∈ (hurtsOf (S.drop h) E 48 most).map hurtAc, x.files = [] from fun x hx => by obtain ⟨y, _, rfl⟩ := List.mem_map.1 hx; rfl)))
  clear h1' h2' hl1 hl2 hx hK
  have q5 := tmod_next hK3 hE
  by_cases hm0 : 0 < m
  · obtain ⟨b0, o0, rfl, HR⟩ : ∃ b0 o0, b = some ⟨b0, o0, none⟩ ∧ RawsAt w (some ⟨b0, o0, none⟩) m S := by
      rcases H with ⟨h1, _⟩ | ⟨b0, o0, e, h2⟩
      · exact absurd hm0 (by rw [h1]; exact Nat.lt_irrefl 0)
      · exact ⟨b0, o0, e, .inr ⟨b0, o0, rfl, h2⟩⟩
    have hdh := half_ne hh hm0 hmd
    have CH1 := hid (fun wx (g : Below w.heap.size w wx) (a' : Option Addr) c => hurts_out (some ⟨b0, o0, none⟩) h c (S.take h) K 48 most wx ((HR.take h hhm).below g) hK3 (by decide) (by decide) (Nat.le_trans hmost (by decide)))
    have CH2 := hid (fun wx (g : Below w.heap.size w wx) (a' : Option Addr) c => hurts_out (some ⟨b0, o0 + h * 4, none⟩) (m - h) c (S.drop h) E 48 most wx ((HR.drop h hhm).below g) hE3 (by decide) (by decide) (Nat.le_trans hmost (by decide)))
    clear H HR hE hK3 hE3 hnb hh
    generalize (hurtsOf (S.take h) K 48 most).map hurtAc = l1 at CH1 HL ⊢
    generalize (hurtsOf (S.drop h) E 48 most).map hurtAc = l2 at CH2 HL ⊢
    rw [← q5] at CH2
    clear q5 q2
    go_enter Tryz.func26, Tryz.ntmps26
    go_wp2_with fail
    refine CP.out.mono ?_
    rintro _ w9 ⟨rfl, h9⟩
    have h8 := h9.symm
    subst h8
    clear CP
    go_upto_region 3 with fail
    try rw [q1]
    try rw [qw]
    go_region_held3 (fun _ => True) (exact trivial) (first
      | (go_at_call_of 16 (Value.int IntKind.i64 (K : Int)); refine (CH1.out _ ?_ none _).mono ?_; exact (Below.refl _ w).drew; rintro _ w5 ⟨ha, hn, hc, L, rfl, hL1, hL2, g5⟩; (have G5 := hid (undrew g5)); (have J5 := hid (And.intro hL1 hL2)); clear hL1 hL2 g5)
      | (go_at_call 16; refine (CH2.out _ ?_ none _).mono ?_; exact G5.out; rintro _ w6 ⟨ia, im, ic, M, rfl, hM1, hM2, g6⟩; (have S6 := hid (both_two (drew_sz w) J5.out.1 J5.out.2 hM1 hM2 HL.out.1 HL.out.2.1 HL.out.2.2 G5.out g6)); clear hM1 hM2 g6)
      | (refine step_appendX rfl (.tmp 19) (.tmp 27) rfl w.heap.size (.slice ha hn hc) L M rfl S6.out.1 ia im ic rfl S6.out.2.1 S6.out.2.2.1 S6.out.2.2.2.1 S6.out.2.2.2.2.1 S6.out.2.2.2.2.2.1 ?_; intro a7 n7 c7 w7 hn7 hI7 hg7; (have F7 := hid (S6.out.2.2.2.2.2.2 a7 n7 c7 w7 hI7 hg7)); clear hn7 hI7 hg7))
    all_goals go_wp2
    all_goals go_ret
    all_goals exact F7.out
  · have hz := half_zero hh hm0
    have hS : S = [] := List.eq_nil_of_length_eq_zero (H.len.symm.trans hz.2.2)
    have CH1 := hid (fun wx (_g : Below w.heap.size w wx) a' c => hurts_out a' h c (S.take h) K 48 most wx (.inl ⟨hz.1, by rw [hS]; exact List.take_nil⟩) hK3 (by decide) (by decide) (Nat.le_trans hmost (by decide)))
    have CH2 := hid (fun wx (_g : Below w.heap.size w wx) a' c => hurts_out a' (m - h) c (S.drop h) E 48 most wx (.inl ⟨hz.2.1, by rw [hS]; exact List.drop_nil⟩) hE3 (by decide) (by decide) (Nat.le_trans hmost (by decide)))
    clear H hS hE hK3 hE3 hnb hh hm0 hz
    generalize (hurtsOf (S.take h) K 48 most).map hurtAc = l1 at CH1 HL ⊢
    generalize (hurtsOf (S.drop h) E 48 most).map hurtAc = l2 at CH2 HL ⊢
    rw [← q5] at CH2
    clear q5 q2
    cases b with
    | none =>
      go_enter Tryz.func26, Tryz.ntmps26
      go_wp2_with fail
      refine CP.out.mono ?_
      rintro _ w9 ⟨rfl, h9⟩
      have h8 := h9.symm
      subst h8
      clear CP
      go_upto_region 3 with fail
      try rw [q1]
      try rw [qw]
      go_region_held3 (fun _ => True) (exact trivial) (first
        | (go_at_call_of 16 (Value.int IntKind.i64 (K : Int)); refine (CH1.out _ ?_ _ _).mono ?_; exact (Below.refl _ w).drew; rintro _ w5 ⟨ha, hn, hc, L, rfl, hL1, hL2, g5⟩; (have G5 := hid (undrew g5)); (have J5 := hid (And.intro hL1 hL2)); clear hL1 hL2 g5)
        | (go_at_call 16; refine (CH2.out _ ?_ _ _).mono ?_; exact G5.out; rintro _ w6 ⟨ia, im, ic, M, rfl, hM1, hM2, g6⟩; (have S6 := hid (both_two (drew_sz w) J5.out.1 J5.out.2 hM1 hM2 HL.out.1 HL.out.2.1 HL.out.2.2 G5.out g6)); clear hM1 hM2 g6)
        | (refine step_appendX rfl (.tmp 19) (.tmp 27) rfl w.heap.size (.slice ha hn hc) L M rfl S6.out.1 ia im ic rfl S6.out.2.1 S6.out.2.2.1 S6.out.2.2.2.1 S6.out.2.2.2.2.1 S6.out.2.2.2.2.2.1 ?_; intro a7 n7 c7 w7 hn7 hI7 hg7; (have F7 := hid (S6.out.2.2.2.2.2.2 a7 n7 c7 w7 hI7 hg7)); clear hn7 hI7 hg7))
      all_goals go_wp2
      all_goals go_ret
      all_goals exact F7.out
    | some ad =>
      obtain ⟨b0, o0, fr⟩ := ad
      by_cases hdh : d = h
      · have hdh := hdh
        go_enter Tryz.func26, Tryz.ntmps26
        go_wp2_with fail
        refine CP.out.mono ?_
        rintro _ w9 ⟨rfl, h9⟩
        have h8 := h9.symm
        subst h8
        clear CP
        go_upto_region 3 with fail
        try rw [q1]
        try rw [qw]
        go_region_held3 (fun _ => True) (exact trivial) (first
          | (go_at_call_of 16 (Value.int IntKind.i64 (K : Int)); refine (CH1.out _ ?_ _ _).mono ?_; exact (Below.refl _ w).drew; rintro _ w5 ⟨ha, hn, hc, L, rfl, hL1, hL2, g5⟩; (have G5 := hid (undrew g5)); (have J5 := hid (And.intro hL1 hL2)); clear hL1 hL2 g5)
          | (go_at_call 16; refine (CH2.out _ ?_ _ _).mono ?_; exact G5.out; rintro _ w6 ⟨ia, im, ic, M, rfl, hM1, hM2, g6⟩; (have S6 := hid (both_two (drew_sz w) J5.out.1 J5.out.2 hM1 hM2 HL.out.1 HL.out.2.1 HL.out.2.2 G5.out g6)); clear hM1 hM2 g6)
          | (refine step_appendX rfl (.tmp 19) (.tmp 27) rfl w.heap.size (.slice ha hn hc) L M rfl S6.out.1 ia im ic rfl S6.out.2.1 S6.out.2.2.1 S6.out.2.2.2.1 S6.out.2.2.2.2.1 S6.out.2.2.2.2.2.1 ?_; intro a7 n7 c7 w7 hn7 hI7 hg7; (have F7 := hid (S6.out.2.2.2.2.2.2 a7 n7 c7 w7 hI7 hg7)); clear hn7 hI7 hg7))
        all_goals go_wp2
        all_goals go_ret
        all_goals exact F7.out
      · have hdh := hdh
        go_enter Tryz.func26, Tryz.ntmps26
        go_wp2_with fail
        refine CP.out.mono ?_
        rintro _ w9 ⟨rfl, h9⟩
        have h8 := h9.symm
        subst h8
        clear CP
        go_upto_region 3 with fail
        try rw [q1]
        try rw [qw]
        go_region_held3 (fun _ => True) (exact trivial) (first
          | (go_at_call_of 16 (Value.int IntKind.i64 (K : Int)); refine (CH1.out _ ?_ _ _).mono ?_; exact (Below.refl _ w).drew; rintro _ w5 ⟨ha, hn, hc, L, rfl, hL1, hL2, g5⟩; (have G5 := hid (undrew g5)); (have J5 := hid (And.intro hL1 hL2)); clear hL1 hL2 g5)
          | (go_at_call 16; refine (CH2.out _ ?_ _ _).mono ?_; exact G5.out; rintro _ w6 ⟨ia, im, ic, M, rfl, hM1, hM2, g6⟩; (have S6 := hid (both_two (drew_sz w) J5.out.1 J5.out.2 hM1 hM2 HL.out.1 HL.out.2.1 HL.out.2.2 G5.out g6)); clear hM1 hM2 g6)
          | (refine step_appendX rfl (.tmp 19) (.tmp 27) rfl w.heap.size (.slice ha hn hc) L M rfl S6.out.1 ia im ic rfl S6.out.2.1 S6.out.2.2.1 S6.out.2.2.2.1 S6.out.2.2.2.2.1 S6.out.2.2.2.2.2.1 ?_; intro a7 n7 c7 w7 hn7 hI7 hg7; (have F7 := hid (S6.out.2.2.2.2.2.2 a7 n7 c7 w7 hI7 hg7)); clear hn7 hI7 hg7))
        all_goals go_wp2
        all_goals go_ret
        all_goals exact F7.out
end Go.Proofs.YtahoagbaadnihaaGreatDoor
