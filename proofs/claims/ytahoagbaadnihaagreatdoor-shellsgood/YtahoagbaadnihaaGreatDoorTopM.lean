/- Joined texts: TopCall, TopTold, TopOneM, TopMany, TopTwo, TopBoth, TopEq. -/
import Derived.Test.YtahoagbaadnihaaGreatDoorTopK
import Derived.Test.YtahoagbaadnihaaGreatDoorShlDR
import Derived.Test.YtahoagbaadnihaaGreatDoorTopP
import Derived.Deep.RegionWith
import Derived.Deep.RegionHeld3
import Derived.Handy
import Derived.Deep.QuietTactic
import Derived.BigQuiet
import Derived.Shelf.Abstract
/- arrastop.run: acts put together and done over a new archive. -/
namespace Go.Proofs.YtahoagbaadnihaaGreatDoor
open Go.RowKit Go.Lib

end Go.Proofs.YtahoagbaadnihaaGreatDoor

/- arrastop.told: do the last answers tell all files that were added? -/
namespace Go.Proofs.YtahoagbaadnihaaGreatDoor
open Go.RowKit Go.Lib

end Go.Proofs.YtahoagbaadnihaaGreatDoor

/- What the last answers of a script tell, purely; contracts of small pieces that the theorems of the whole share. -/
namespace Go.Proofs.YtahoagbaadnihaaGreatDoor
open Go.RowKit Go.Lib

theorem nat_pick (x : Int) : ∃ K : Nat, pick x 3 = (K : Int) ∧ K < 3 := by
  have := pick_bd x 3 (by omega)
  exact ⟨(pick x 3).toNat, by omega, by omega⟩
theorem hurtsgo_le (d m : Int) : ∀ (l : List Raw4) (T : List Int), (hurtsGo d m l T).length ≤ l.length
  | [], _ => Nat.le_refl _
  | r :: l, T => by
    rw [hurtsGo_cons]
    have h := hurtsgo_le d m l
    split
    · have := h T; simp only [List.length_cons]; omega
    · split
      · have := h (pick r.a m :: T); simp only [List.length_cons]; omega
      · split
        · have := h T; simp only [List.length_cons]; omega
        · have := h T; simp only [List.length_cons]; omega
theorem hurts_le (l : List Raw4) (d m : Int) (most : Nat) : (hurtsOf l d m most).length ≤ most := by
  unfold hurtsOf
  refine Nat.le_trans (hurtsgo_le _ _ _ _) ?_
  rw [List.length_take]
  omega
end Go.Proofs.YtahoagbaadnihaaGreatDoor

/- Lists of acts, laid as one argument of arrastop.run; a scrub between two hurts, purely. -/
namespace Go.Proofs.YtahoagbaadnihaaGreatDoor
open Go.RowKit Go.Lib

/-- Acts with no files, written out in place. -/
theorem acts_laid (w : World) (L : List Ac) (hf : ∀ x ∈ L, x.files = [] ∧ x.name.size ≤ maxLen) (hL : L.length ≤ 1000) :
    PartOk (w.alloc (.cells (axV (L.map fun x => ⟨x, nilS⟩)).toArray 47)) ⟨⟨some ⟨w.heap.size, 0, none⟩, L.length, L.length⟩, L.map fun x => ⟨x, nilS⟩⟩ := by
  refine ⟨Nat.le_refl _, ⟨by simp, by show L.length ≤ maxLen; unfold maxLen; omega, (Own.made w 47 _).row, fun q hq => ?_⟩⟩
  obtain ⟨x, hx, rfl⟩ := List.mem_map.1 hq
  exact axOk_nil (hf x hx).1 (hf x hx).2
theorem acs_nil (L : List Ac) : acs (L.map fun x => (⟨x, nilS⟩ : Ax)) = L := by
  rw [acs, List.map_map]
  exact List.map_id L
end Go.Proofs.YtahoagbaadnihaaGreatDoor

/- Scripts that hurt two devices, purely. -/
namespace Go.Proofs.YtahoagbaadnihaaGreatDoor
open Go.RowKit Go.Lib

end Go.Proofs.YtahoagbaadnihaaGreatDoor

/- arrastop.both: two devices hurt. -/
namespace Go.Proofs.YtahoagbaadnihaaGreatDoor
open Go.RowKit Go.Lib

/-- The two rows, put together. -/
theorem both_fin {w W w' : World} {va v : Value} {L M : List Ax} {l1 l2 : List Ac} (hb : Below w.heap.size w W) (h1 : acs L = l1) (h2 : acs M = l2) (a : Option Addr) (n c : Nat) (hv : v = .slice a n c) (base : Nat) (hbase : w.heap.size ≤ base) (hI : ActI w' base v (L ++ M)) (hL : ActI W base va L) (g : W.grownBy w' va.ownBlock) : OutX w (l1 ++ l2) (.returned v) w' := by
  subst hv
  exact ⟨a, n, c, L ++ M, rfl, hI.down hbase, by rw [acs_app, h1, h2], hb.grown g hb.size (fun b e => Nat.le_trans hbase (World.ownsRow.lt hL.own b e).1)⟩
/-- Both rows, when the second one is made. -/
theorem both_two {w w5 w6 : World} {B : Nat} {ha ia : Option Addr} {hn hc im ic : Nat} {L M : List Ax} {l1 l2 : List Ac} (hB : B = w.heap.size) (hL : ActI w5 B (.slice ha hn hc) L) (h1 : acs L = l1) (hM : ActI w6 w5.heap.size (.slice ia im ic) M) (h2 : acs M = l2) (k1 : l1.length ≤ 30) (k2 : l2.length ≤ 30) (hz : ∀ x ∈ l2, x.files = []) (g5 : Below w.heap.size w w5) (g6 : Below w5.heap.size w5 w6) :
    ActI w6 w.heap.size (.slice ha hn hc) L ∧ im = M.length ∧ (M = [] ∨ ∃ ad, ia = some ad ∧ ∀ j u, (axV M)[j]? = some u → w6.cell? (ad.add j) = some u) ∧ (∀ q ∈ M, AxOk w6 q ∧ Off (Value.slice ha hn hc).ownBlock q.f.a q.f.n) ∧ L.length + M.length ≤ 100000 ∧ w.heap.size ≤ w6.heap.size ∧
      ∀ a7 n7 c7 w7, ActI w7 w.heap.size (.slice a7 n7 c7) (L ++ M) → w6.grownBy w7 (Value.slice ha hn hc).ownBlock → OutX w (l1 ++ l2) (.returned (.slice a7 n7 c7)) w7 := by
  subst hB
  have e1 := congrArg List.length h1
  have e2 := congrArg List.length h2
  rw [acs_len] at e1 e2
  have hMt := (hM.at (by unfold maxLen; omega)).2
  have hL6 := hL.below g6
  refine ⟨hL6, hMt.sn, actAt_src hMt, fun q hq => ⟨hMt.ok q hq, ?_⟩, by omega, Nat.le_trans g5.size g6.size, fun a7 n7 c7 w7 hI hg => both_fin (bel3 g5 g6) h1 h2 a7 n7 c7 rfl w.heap.size (Nat.le_refl _) hI hL6 hg⟩
  intro h0
  have hf := (hMt.ok q hq).1.2.sn
  rw [hz q.x (by rw [← h2]; exact List.mem_map.2 ⟨q, hq, rfl⟩)] at hf
  have : q.f.n = 0 := hf
  omega
end Go.Proofs.YtahoagbaadnihaaGreatDoor

/- Rows that hold the same are equal: slices.Equal at texts, slices.EqualFunc at answers; a scrub in a script, purely. -/
namespace Go.Proofs.YtahoagbaadnihaaGreatDoor
open Go.RowKit Go.Lib

theorem row_cell {w : World} {a : Option Addr} {V : List Value} (h : RowAt w a V) (k : Nat) (hk : k < V.length) : ∃ b o, a = some ⟨b, o, none⟩ ∧ b < w.heap.size ∧ w.cell? ⟨b, o + k, none⟩ = some V[k] := h k _ (List.getElem?_eq_getElem hk)
set_option maxHeartbeats 1600000 in
set_option maxRecDepth 4000 in
theorem eqT_q (a : Option Addr) (n c : Nat) (b : Option Addr) (d : Nat) (S : List ByteArray) (w : World) (h : RowAt w a (S.map .string)) (h2 : RowAt w b (S.map .string)) (hn : n = S.length) (hb : n ≤ maxLen) :
    Calls Tryz.prog 20 #[.slice a n c, .slice b n d] w fun e w' => e = .returned (.bool true) ∧ ∃ q, w' = w.drewN q := by
  have H := hid (And.intro h h2)
  have HN := hid hn
  unfold maxLen at hb
  have n1 : ((n : Int) != n) = false := bne_self_eq_false _
  clear h h2 hn
  go_enter Tryz.func20, Tryz.ntmps20
  go_wp2_with fail
  clear n1
  go_loopw [13] (fun i wr => ∃ k q : Nat, k ≤ n ∧ i = .int .i64 k ∧ wr = w.drewN q) (fun i _ => n - (RowKit.intOf i).toNat)
  case atStart => exact ⟨0, 0, Nat.zero_le _, rfl, rfl⟩
  case round =>
    obtain ⟨k, q, hk, rfl, rfl⟩ := hrel
    by_cases hlt : k < n
    · have hlt' : (k : Int) < n := by omega
      have hkS : k < (S.map Value.string).length := by rw [List.length_map, ← HN.out]; exact hlt
      obtain ⟨p, o, rfl, _, e1⟩ := row_cell H.out.1 k hkS
      obtain ⟨p2, o2, rfl, _, e3⟩ := row_cell H.out.2 k hkS
      rw [List.getElem_map] at e1 e3
      generalize S[k]'(by rw [← HN.out]; exact hlt) = s at e1 e3
      clear H HN hkS
      go_wp2_with fail
      go_quiet (fail)
      go_wp2
      go_roundw
      case rel => exact ⟨k + 1, _, by omega, by go_num, rfl⟩
      case measure => simp [RowKit.intOf]; omega
    · have hlt' : ¬ (k : Int) < n := by omega
      go_wp2
      go_ret
      exact ⟨rfl, q, rfl⟩
set_option maxHeartbeats 1600000 in
set_option maxRecDepth 4000 in
theorem eqB_q (a : Option Addr) (n c : Nat) (b : Option Addr) (d : Nat) (S : List Bool) (w : World) (h : RowAt w a (S.map .bool)) (h2 : RowAt w b (S.map .bool)) (hn : n = S.length) (hb : n ≤ maxLen) :
    Calls Tryz.prog 21 #[.slice a n c, .slice b n d] w fun e w' => e = .returned (.bool true) ∧ ∃ q, w' = w.drewN q := by
  have H := hid (And.intro h h2)
  have HN := hid hn
  unfold maxLen at hb
  have n1 : ((n : Int) != n) = false := bne_self_eq_false _
  clear h h2 hn
  go_enter Tryz.func21, Tryz.ntmps21
  go_wp2_with fail
  clear n1
  go_loopw [13] (fun i wr => ∃ k q : Nat, k ≤ n ∧ i = .int .i64 k ∧ wr = w.drewN q) (fun i _ => n - (RowKit.intOf i).toNat)
  case atStart => exact ⟨0, 0, Nat.zero_le _, rfl, rfl⟩
  case round =>
    obtain ⟨k, q, hk, rfl, rfl⟩ := hrel
    by_cases hlt : k < n
    · have hlt' : (k : Int) < n := by omega
      have hkS : k < (S.map Value.bool).length := by rw [List.length_map, ← HN.out]; exact hlt
      obtain ⟨p, o, rfl, _, e1⟩ := row_cell H.out.1 k hkS
      obtain ⟨p2, o2, rfl, _, e3⟩ := row_cell H.out.2 k hkS
      rw [List.getElem_map] at e1 e3
      generalize S[k]'(by rw [← HN.out]; exact hlt) = s at e1 e3
      clear H HN hkS
      go_wp2_with fail
      go_quiet (fail)
      go_wp2
      go_roundw
      case rel => exact ⟨k + 1, _, by omega, by go_num, rfl⟩
      case measure => simp [RowKit.intOf]; omega
    · have hlt' : ¬ (k : Int) < n := by omega
      go_wp2
      go_ret
      exact ⟨rfl, q, rfl⟩
theorem AnsAt.drop {w : World} {b o n : Nat} {L : List Nx} (h : AnsAt w (some ⟨b, o, none⟩) n L) (j : Nat) (hj : j ≤ n) : AnsAt w (some ⟨b, o + j * 5, none⟩) (n - j) (L.drop j) := by
  refine ⟨by rw [List.length_drop, h.sn], by have := h.nb; omega, fun i v hv => ?_, fun q hq => h.ok q (List.mem_of_mem_drop hq)⟩
  have e : nxV L = nxV (L.take j) ++ nxV (L.drop j) := by rw [← nxV_app, List.take_append_drop]
  have hl : (nxV (L.take j)).length = j * 5 := by rw [nxV_len, List.length_take, ← h.sn, Nat.min_eq_left hj]
  have hv2 : (nxV L)[j * 5 + i]? = some v := by rw [e, List.getElem?_append_right (by omega), hl, Nat.add_sub_cancel_left]; exact hv
  obtain ⟨b2, o2, e2, hb, c⟩ := h.row (j * 5 + i) v hv2
  cases e2
  exact ⟨b, o + j * 5, rfl, hb, by rw [Nat.add_assoc]; exact c⟩
section
variable {all : List (List UInt8)} {A : Ar}
/-- Acts that are refused change nothing. -/
theorem act_kindQ (h : Ha) (x : Ac) (hx : 9 ≤ x.kind) : actS h x = (h, anE 3) := by
  unfold actS
  rw [if_neg (by omega), if_neg (by omega), if_neg (by omega), if_neg (by omega), if_neg (by omega), if_neg (by omega), if_neg (by omega)]
theorem act_lose3Q (h : Ha) (F : List Fi) (s : ByteArray) (n a b : Int) : actS h ⟨4, F, s, 3, n, a, b⟩ = (h, anE 2) := by
  show (if (4 : Int) = 1 then _ else if (4 : Int) = 2 then _ else if (4 : Int) = 3 then _ else if (4 : Int) = 4 ∨ (4 : Int) = 5 then actHurt h ⟨4, F, s, 3, n, a, b⟩ else _) = _
  rw [if_neg (by decide), if_neg (by decide), if_neg (by decide), if_pos (by decide)]
  show (if (0 : Int) ≤ 3 ∧ (3 : Int) ≤ 2 then _ else (h, anE 2)) = _
  rw [if_neg (by decide)]
theorem act_turn0Q (h : Tru all A) (nx rd : Int) (F : List Fi) (s : ByteArray) (a b : Int) : actS ⟨A, nx, rd⟩ ⟨5, F, s, 0, all.length, a, b⟩ = (⟨A, nx, rd⟩, anE 6) := by
  show (if (5 : Int) = 1 then _ else if (5 : Int) = 2 then _ else if (5 : Int) = 3 then _ else if (5 : Int) = 4 ∨ (5 : Int) = 5 then actHurt ⟨A, nx, rd⟩ ⟨5, F, s, 0, all.length, a, b⟩ else _) = _
  rw [if_neg (by decide), if_neg (by decide), if_neg (by decide), if_pos (by decide)]
  have hh := (arMay_iff A).1 h.may
  have ht : dvTouch (dev A 0) (all.length : Int) = 6 := by
    have hl : (dev A 0).1.length = all.length := h.mny
    rw [dvTouch, if_pos (hh.2.1 _ (dev_mem A 0 (by rw [hh.1]; decide))), if_neg (by omega)]
  have e : hurtX A ⟨5, F, s, 0, all.length, a, b⟩ = (nil2, 6) := by
    show (if (5 : Int) = 5 then dvTurn (dev A 0) all.length a b else _) = _
    rw [if_pos rfl, dvTurn, dvChange, ht, if_neg (by decide)]
  show (if (0 : Int) ≤ 0 ∧ (0 : Int) ≤ 2 then (if (hurtX A ⟨5, F, s, 0, all.length, a, b⟩).2 = 0 then _ else ((⟨A, nx, rd⟩ : Ha), anE (hurtX A ⟨5, F, s, 0, all.length, a, b⟩).2)) else _) = _
  rw [if_pos (by decide), e, if_neg (by decide)]
theorem act_scrubmQ (h : Tru all A) (nx : Nat) (rd : Int) (hx : nx < all.length) (h0 : 0 ≤ rd) (h1 : rd ≤ 1073741824) (F : List Fi) (s : ByteArray) (d a b : Int) : actS ⟨A, nx, rd⟩ ⟨7, F, s, d, -1, a, b⟩ = (⟨A, nx, rd⟩, anE 2) := by
  have e : arStep A nx rd (-1) = stepNo 2 := by
    unfold arStep
    rw [if_pos h.may, h.mny, if_pos (by omega), if_neg (by decide)]
  show actScrub ⟨A, nx, rd⟩ (-1) = _
  rw [actScrub]
  dsimp only
  rw [e, if_neg (by decide)]
  rfl
theorem act_newmQ (h : Tru all A) (nx rd : Int) (F : List Fi) (s : ByteArray) (n a b : Int) : actS ⟨A, nx, rd⟩ ⟨6, F, s, -1, n, a, b⟩ = (⟨A, nx, rd⟩, anE 2) := by
  have e : arReplace A (-1) = ([], 2) := by rw [arReplace, if_pos h.may, if_neg (by decide)]
  show actNew ⟨A, nx, rd⟩ (-1) = _
  rw [actNew]
  dsimp only
  rw [e, if_neg (by decide)]
end
/-- Five acts that are refused. -/
def five (N : Nat) (kd : Int) : List Ac := [⟨kd, [], ⟨#[]⟩, 0, 0, 0, 0⟩, ⟨4, [], ⟨#[]⟩, 3, 0, 0, 0⟩, ⟨5, [], ⟨#[]⟩, 0, N, 0, 0⟩, ⟨7, [], ⟨#[]⟩, 0, -1, 0, 0⟩, ⟨6, [], ⟨#[]⟩, -1, 0, 0, 0⟩]
theorem shell_told (Gs : List (List Fi)) (hc : Chain 0 Gs) (ht : tot Gs ≤ 8) (K : Nat) (hK : K < 3) (H : List Raw4) (m : Nat) (N : Nat) (h1 : 16 ≤ N) (h2 : N ≤ 64) (h3 : N % 2 = 0) (kd : Int) (hkd : 9 ≤ kd) (l : List Ac) (hl : l = Gs.map addAc ++ (hurtsOf H K N m).map hurtAc) (hn : l.length ≤ 190) :
    ∃ (R : List An) (A : Ar), scrS N l = (R, A, 0) ∧ scrS N (l ++ five N kd) = (R ++ [anE 3, anE 2, anE 6, anE 2, anE 2], A, 0) ∧ arMay A = true ∧ R.length = l.length := by
  obtain ⟨e0, a0⟩ := arc_new N (by omega) (by omega) (by omega) K hK
  obtain ⟨all', C', D', E', cs, e1, l1, l2, a1, _⟩ := adds_run hK 0 0 Gs _ _ _ _ _ 0 a0 hc (by omega)
  have l3 : all'.length = N := by rw [l2]; simp [zeroRows]
  have hok : HOk K (dn all' K) [] (hurtsOf H K N m) := by
    have q := hok_of a1.holds.alls K H m
    rw [l3] at q
    exact q
  obtain ⟨D2, e2, w2⟩ := hurts_with a1.holds.alls K hK [] E' a1.worn 0 0 _ hok
  have wA := worn_with a1.holds.alls K hK _ D2 w2
  have T := wA.tru
  obtain ⟨A, hA⟩ : ∃ A, A = With all' K D2 := ⟨_, rfl⟩
  rw [← hA] at T e2
  have er : runS ⟨(arNew (N : Int)).1, 0, 0⟩ l = (⟨A, 0, 0⟩, cs.map anE ++ (hurtsOf H K N m).map (fun _ => anE 0)) := by
    rw [show (arNew (N : Int)).1 = _ from congrArg Prod.fst e0, hl, run_app, e1]
    dsimp only
    rw [e2]
  have c0 : (arNew (N : Int)).2 = 0 := congrArg Prod.snd e0
  have e5 : runS ⟨A, 0, 0⟩ (five N kd) = (⟨A, 0, 0⟩, [anE 3, anE 2, anE 6, anE 2, anE 2]) := by
    have q1 := act_kindQ ⟨A, 0, 0⟩ ⟨kd, [], ⟨#[]⟩, 0, 0, 0, 0⟩ hkd
    have q2 := act_lose3Q ⟨A, 0, 0⟩ [] ⟨#[]⟩ 0 0 0
    have q3 := act_turn0Q T 0 0 [] ⟨#[]⟩ 0 0
    rw [l3] at q3
    have q4 : actS ⟨A, 0, 0⟩ ⟨7, [], ⟨#[]⟩, 0, -1, 0, 0⟩ = (⟨A, 0, 0⟩, anE 2) := act_scrubmQ T 0 0 (by omega) (by omega) (by omega) [] ⟨#[]⟩ 0 0 0
    have q5 := act_newmQ T 0 0 [] ⟨#[]⟩ 0 0 0
    rw [five, runS, q1]
    dsimp only
    rw [runS, q2]
    dsimp only
    rw [runS, q3]
    dsimp only
    rw [runS, q4]
    dsimp only
    rw [runS, q5]
    rfl
  have hlen := run_len ⟨(arNew (N : Int)).1, 0, 0⟩ l
  rw [er] at hlen
  refine ⟨cs.map anE ++ (hurtsOf H K N m).map (fun _ => anE 0), A, ?_, ?_, T.may, hlen⟩
  · rw [scrS, if_pos c0, if_neg (by omega), er]
  · rw [scrS, if_pos c0, if_neg (by rw [List.length_append, show (five N kd).length = 5 from rfl]; omega), run_app, er]
    dsimp only
    rw [e5]
theorem scr15 : scrS 15 [] = ([], [], 2) := by
  have h : arNew 15 = ([], 2) := by rw [arNew, if_neg (by decide)]
  rw [scrS, h]
  rfl
theorem scr201 (N : Nat) (h1 : 16 ≤ N) (h2 : N ≤ 64) (h3 : N % 2 = 0) (l : List Ac) (hl : l.length = 201) : scrS N l = ([], [], 1) := by
  obtain ⟨e0, _⟩ := arc_new N (by omega) (by omega) (by omega) 0 (by omega)
  rw [scrS, if_pos (show (arNew (N : Int)).2 = 0 from congrArg Prod.snd e0), if_pos (by omega)]
end Go.Proofs.YtahoagbaadnihaaGreatDoor
