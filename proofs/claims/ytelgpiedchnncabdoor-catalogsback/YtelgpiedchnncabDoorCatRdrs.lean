/- A reader of bytes: the blocks and the entries that it tells. -/
import Derived.Test.YtelgpiedchnncabDoorCatRdr
import Derived.Test.YtelgpiedchnncabDoorCatRows
import Derived.Test.YtelgpiedchnncabDoorCatBeh
namespace Go.Proofs.YtelgpiedchnncabDoor
open Go.RowKit Go.Lib

theorem rblk_bd (r : Rd) (k j : Nat) (h : j < k) : (0 ≤ (bk (rblk k r).1 j).f ∧ (bk (rblk k r).1 j).f ≤ 8 + 2731 * k) ∧ 0 ≤ (bk (rblk k r).1 j).n ∧ (bk (rblk k r).1 j).n < 65536 := by
  induction k with
  | zero => omega
  | succ k ih =>
    have hl := rblk_len r k
    have e : (rblk (k + 1) r).1 = (rblk k r).1 ++ [⟨behB (rblk k r).1, (rnum 2 (rblk k r).2).1⟩] := rfl
    rw [e]
    by_cases hj : j < k
    · have e2 : bk ((rblk k r).1 ++ [⟨behB (rblk k r).1, (rnum 2 (rblk k r).2).1⟩]) j = bk (rblk k r).1 j := by simp [bk, List.getElem?_append_left (show j < (rblk k r).1.length by omega)]
      rw [e2]
      have := ih hj
      omega
    · obtain rfl : j = k := by omega
      have e2 : bk ((rblk j r).1 ++ [⟨behB (rblk j r).1, (rnum 2 (rblk j r).2).1⟩]) j = ⟨behB (rblk j r).1, (rnum 2 (rblk j r).2).1⟩ := by simp [bk, hl]
      rw [e2]
      have h1 := beh_bd r j
      have h2 := rnum_bd2 (rblk j r).2
      dsimp only
      omega
theorem rent_nm (r : Rd) (k j : Nat) (h : j < k) : (en (rent k r).1 j).s.size ≤ 255 := by
  induction k with
  | zero => omega
  | succ k ih =>
    have hl := rent_len r k
    rw [rent_succ]
    dsimp only
    by_cases hj : j < k
    · have e2 : en ((rent k r).1 ++ [(rent1 (rent k r).2).1]) j = en (rent k r).1 j := by simp [en, List.getElem?_append_left (show j < (rent k r).1.length by omega)]
      rw [e2]
      exact ih hj
    · obtain rfl : j = k := by omega
      have e2 : en ((rent j r).1 ++ [(rent1 (rent j r).2).1]) j = (rent1 (rent j r).2).1 := by simp [en, hl]
      rw [e2]
      generalize (rent j r).2 = q
      have h1 := rnum_bd1 q
      have h2 := tk_len (rnum 1 q).1.toNat (rnum 1 q).2
      have e3 : (rent1 q).1.s = str (e1 q).1 := rfl
      rw [e3, str_size, e1]
      omega

/-- While blocks are read. -/
structure BlkI (w0 : World) (p : Nat) (r : Rd) (v : Value) (L : List Bk) (w : World) : Prop where
  own : ownsK w w0.heap.size v L
  rd : Rdr w p r
  ch : Chg (fun k => k = p) w0 w
structure EnsI (w0 : World) (p : Nat) (r : Rd) (v : Value) (L : List En) (w : World) : Prop where
  own : ownsE w w0.heap.size v L
  rd : Rdr w p r
  ch : Chg (fun k => k = p) w0 w
section
variable {w0 w w' : World} {p : Nat} {r r' : Rd} {v v' : Value} {L L' : List Bk} {E E' : List En}
theorem BlkI.read (h : BlkI w0 p r v L w) (hp : p < w0.heap.size) (hr : Rdr w' p r') (hc : Chg (fun k => k = p) w w') : BlkI w0 p r' v L w' :=
  ⟨hc.row h.own (fun g hg => by omega), hr, h.ch.step hc⟩
theorem BlkI.to (h : BlkI w0 p r v L w) (hp : p < w0.heap.size) (g : Below w.heap.size w w') : BlkI w0 p r v L w' := h.read hp (Own.below' h.rd g) (chg_below _ g)
theorem BlkI.grown (h : BlkI w0 p r v L w) (hp : p < w0.heap.size) (hg : w.grownBy w' v.ownBlock) (ho : ownsK w' w0.heap.size v' L') : BlkI w0 p r v' L' w' := by
  have hc := chg_grown hg
  have hne : ∀ k, some k = v.ownBlock → w0.heap.size ≤ k := fun k hk => (World.ownsRow.lt h.own k hk.symm).1
  exact ⟨ho, hc.own h.rd (fun e => by have := hne p e; omega), h.ch.trans hc (fun k hk q => by have := hne k q; omega)⟩
theorem EnsI.read (h : EnsI w0 p r v E w) (hp : p < w0.heap.size) (hr : Rdr w' p r') (hc : Chg (fun k => k = p) w w') : EnsI w0 p r' v E w' :=
  ⟨hc.row h.own (fun g hg => by omega), hr, h.ch.step hc⟩
theorem EnsI.to (h : EnsI w0 p r v E w) (hp : p < w0.heap.size) (g : Below w.heap.size w w') : EnsI w0 p r v E w' := h.read hp (Own.below' h.rd g) (chg_below _ g)
theorem EnsI.grown (h : EnsI w0 p r v E w) (hp : p < w0.heap.size) (hg : w.grownBy w' v.ownBlock) (ho : ownsE w' w0.heap.size v' E') : EnsI w0 p r v' E' w' := by
  have hc := chg_grown hg
  have hne : ∀ k, some k = v.ownBlock → w0.heap.size ≤ k := fun k hk => (World.ownsRow.lt h.own k hk.symm).1
  exact ⟨ho, hc.own h.rd (fun e => by have := hne p e; omega), h.ch.trans hc (fun k hk q => by have := hne k q; omega)⟩
end

set_option maxHeartbeats 1600000 in
set_option maxRecDepth 4000 in
theorem blocks_rd (p : Nat) (r : Rd) (w : World) (h : Rdr w p r) :
    Calls Tryd.prog 16 #[.pointer (some ⟨p, 0, none⟩)] w fun e w' => ∃ ao m cap, e = .returned (.slice ao m cap) ∧ BlkI w p (c1 r).2 (.slice ao m cap) (c1 r).1 w' := by
  have hp : p < w.heap.size := h.lt
  have C1 := number_rd p 1 r w h (by omega)
  obtain ⟨N, hN⟩ : ∃ N : Nat, (rnum 1 r).1 = N := ⟨(rnum 1 r).1.toNat, by have := rnum_bd1 r; omega⟩
  have hN2 : N ≤ 255 := by have := rnum_bd1 r; omega
  rw [hN] at C1
  have EC := hid (show c1 r = rblk N (rnum 1 r).2 by rw [c1, hN, Int.toNat_natCast])
  obtain ⟨q, hq⟩ : ∃ q, (rnum 1 r).2 = q := ⟨_, rfl⟩
  rw [hq] at C1 EC
  have HC1 := hid C1
  clear C1 hN h hq
  go_enter Tryd.func16, Tryd.ntmps16
  go_wp2_with fail
  refine HC1.out.mono ?_
  rintro _ w1 ⟨rfl, r1, g1⟩
  have I1 : Hid (BlkI w p q (.slice none 0 0) [] w1) := ⟨ownsK_nil _ _, r1, g1⟩
  clear r1 g1 HC1
  go_wp2_with fail
  go_loopw [3, 6] (fun v i wr => ∃ k m cap : Nat, ∃ ao : Option Addr, k ≤ N ∧ i = .int .i64 k ∧ v = .slice ao m cap ∧ Hid (BlkI w p (rblk k q).2 (.slice ao m cap) (rblk k q).1 wr)) (fun _ i _ => N - (RowKit.intOf i).toNat)
  case atStart => exact ⟨0, 0, 0, none, Nat.zero_le _, rfl, rfl, I1⟩
  case round =>
    obtain ⟨k, m, cap, ao, hk, rfl, rfl, HI⟩ := hrel
    clear I1
    by_cases hlt : k < N
    · have hlt' : (k : Int) < N := by omega
      have hl := rblk_len q k
      obtain ⟨hm, _, HB⟩ := ownsK_at HI.out.own (by rw [hl]; unfold maxLen; omega)
      rw [hl] at hm
      have CB := hid (behind_any ao m cap (rblk k q).1 wr HB (fun j hj => by have := rblk_bd q k j (by omega); omega))
      have HN := hid (rblk_succ k q)
      have hb := beh_bd q k
      obtain ⟨⟨L, R⟩, hX⟩ : ∃ X, rblk k q = X := ⟨_, rfl⟩
      rw [hX] at HI CB HN hb hl
      dsimp only at HI CB HN hb hl
      clear HB hm hX
      unfold stB at HN
      generalize behB L = f at CB HN hb
      go_wp2_with fail
      refine CB.out.mono ?_
      rintro _ w2 ⟨rfl, g2⟩
      have I2 := hid (HI.out.to hp g2)
      have C3 := hid (number_rd p 2 R w2 I2.out.rd (by omega))
      clear CB g2 HI
      generalize rnum 2 R = X at C3 HN
      obtain ⟨n, R'⟩ := X
      dsimp only at C3 HN
      go_wp2_with fail
      refine C3.out.mono ?_
      rintro _ w3 ⟨rfl, r3, g3⟩
      have I3 := I2.out.read hp r3 g3
      have I4 := hid (I3.to hp ((Below.refl _ w3).alloc (Nat.le_refl _) (.cells #[.int .i64 f, .int .i64 n] 41)))
      have N4 := new_blk w3 f n 41
      clear C3 r3 g3 I2 I3
      go_wp2_with (at_builtin; (refine wpList_appendK _ rfl (.tmp 8) (.tmp 14) rfl w.heap.size _ L rfl I4.out.own ⟨w3.heap.size, 0, none⟩ 1 ⟨f, n⟩ rfl N4 (by omega) I4.out.ch.size ?_; intro g5 m5 cap5 w5 hm5 hg5 hown5 hgrow5; have I5 := hid (I4.out.grown hp hgrow5 hown5); clear hown5 hgrow5))
      go_roundw
      case rel =>
        refine ⟨k + 1, m5, cap5, some ⟨g5, 0, none⟩, by omega, by go_num, rfl, ?_⟩
        rw [HN.out]
        exact I5
      case measure => simp [RowKit.intOf]; omega
    · obtain rfl : k = N := by omega
      have hlt' : ¬ (k : Int) < k := by omega
      go_wp2
      go_ret
      refine ⟨ao, m, cap, rfl, ?_⟩
      rw [EC.out]
      exact HI.out

set_option maxHeartbeats 1600000 in
set_option maxRecDepth 4000 in
theorem entries_rd (p : Nat) (r : Rd) (w : World) (h : Rdr w p r) :
    Calls Tryd.prog 17 #[.pointer (some ⟨p, 0, none⟩)] w fun e w' => ∃ ao m cap, e = .returned (.slice ao m cap) ∧ EnsI w p (rent (rnum 1 r).1.toNat (rnum 1 r).2).2 (.slice ao m cap) (rent (rnum 1 r).1.toNat (rnum 1 r).2).1 w' := by
  have hp : p < w.heap.size := h.lt
  have C1 := number_rd p 1 r w h (by omega)
  obtain ⟨N, hN⟩ : ∃ N : Nat, (rnum 1 r).1 = N := ⟨(rnum 1 r).1.toNat, by have := rnum_bd1 r; omega⟩
  have hN2 : N ≤ 255 := by have := rnum_bd1 r; omega
  rw [hN] at C1 ⊢
  rw [Int.toNat_natCast]
  obtain ⟨q, hq⟩ : ∃ q, (rnum 1 r).2 = q := ⟨_, rfl⟩
  rw [hq] at C1 ⊢
  have HC1 := hid C1
  clear C1 hN h hq
  go_enter Tryd.func17, Tryd.ntmps17
  go_wp2_with fail
  refine HC1.out.mono ?_
  rintro _ w1 ⟨rfl, r1, g1⟩
  have I1 : Hid (EnsI w p q (.slice none 0 0) [] w1) := ⟨ownsE_nil _ _, r1, g1⟩
  clear r1 g1 HC1
  go_wp2_with fail
  go_loopw [3, 6] (fun v i wr => ∃ k m cap : Nat, ∃ ao : Option Addr, k ≤ N ∧ i = .int .i64 k ∧ v = .slice ao m cap ∧ Hid (EnsI w p (rent k q).2 (.slice ao m cap) (rent k q).1 wr)) (fun _ i _ => N - (RowKit.intOf i).toNat)
  case atStart => exact ⟨0, 0, 0, none, Nat.zero_le _, rfl, rfl, I1⟩
  case round =>
    obtain ⟨k, m, cap, ao, hk, rfl, rfl, HI⟩ := hrel
    clear I1
    by_cases hlt : k < N
    · have hlt' : (k : Int) < N := by omega
      have hl := rent_len q k
      have HN := hid (rent_succ k q)
      obtain ⟨⟨L, R⟩, hX⟩ : ∃ X, rent k q = X := ⟨_, rfl⟩
      rw [hX] at HI HN hl
      dsimp only at HI HN hl
      clear hX
      have C3 := hid (entry_rd p R wr HI.out.rd)
      generalize rent1 R = X at C3 HN
      obtain ⟨x, R'⟩ := X
      dsimp only at C3 HN
      go_wp2_with fail
      refine C3.out.mono ?_
      rintro _ w3 ⟨rfl, r3, g3⟩
      have I3 := HI.out.read hp r3 g3
      have I4 := hid (I3.to hp ((Below.refl _ w3).alloc (Nat.le_refl _) (.cells #[.string x.s, .int .i64 x.b, .int .i64 x.a, .int .i64 x.n] 44)))
      have N4 := new_ent w3 x 44
      clear C3 r3 g3 I3 HI
      go_wp2_with (at_builtin; (refine wpList_appendE _ rfl (.tmp 8) (.tmp 11) rfl w.heap.size _ L rfl I4.out.own ⟨w3.heap.size, 0, none⟩ 1 x rfl N4 (by omega) I4.out.ch.size ?_; intro g5 m5 cap5 w5 hm5 hg5 hown5 hgrow5; have I5 := hid (I4.out.grown hp hgrow5 hown5); clear hown5 hgrow5))
      go_roundw
      case rel =>
        refine ⟨k + 1, m5, cap5, some ⟨g5, 0, none⟩, by omega, by go_num, rfl, ?_⟩
        rw [HN.out]
        exact I5
      case measure => simp [RowKit.intOf]; omega
    · obtain rfl : k = N := by omega
      have hlt' : ¬ (k : Int) < k := by omega
      go_wp2
      go_ret
      exact ⟨ao, m, cap, rfl, HI.out⟩
end Go.Proofs.YtelgpiedchnncabDoor
