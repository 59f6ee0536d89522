/- The catalog that is made of raw things: what arraskeep.Catalog answers. -/
import Derived.Test.YtelgpiedchnncabDoorCatKeep
import Derived.Test.YtelgpiedchnncabDoorStraight
namespace Go.Proofs.YtelgpiedchnncabDoor
open Go.RowKit Go.Lib

/-- A catalog that comes out of a call. -/
def OutKc (w : World) (C : Ct) (e : Ending) (w' : World) : Prop := ∃ a n c a' m c', e = .returned (.agg #[.slice a n c, .slice a' m c']) ∧ CatAt w' a n c a' m C ∧ Below w.heap.size w w'
theorem k_bd (R : List Raw4) (k : Nat) (h : k ≤ 9) : (kB R k).length ≤ maxLen ∧ (kE R k).length ≤ maxLen ∧ ∀ i, i < (kE R k).length → (en (kE R k) i).s.size ≤ maxLen := by
  rw [kB_len, kE_len]
  refine ⟨by unfold maxLen; omega, by unfold maxLen; omega, fun i hi => ?_⟩
  rw [kE_at R k i hi]
  show (kName i).size ≤ _
  rw [kName, str_size]
  unfold maxLen
  simp

theorem RawsAt.get {w : World} {a : Option Addr} {n : Nat} {R : List Raw4} (H : RawsAt w a n R) (k : Nat) (hk : k < n) : ∃ b o, a = some ⟨b, o, none⟩ ∧ b < w.heap.size ∧ (i64Ok (raw R k).kind ∧ i64Ok (raw R k).a ∧ i64Ok (raw R k).b ∧ i64Ok (raw R k).c) ∧ w.cell? ⟨b, o + k * 4, none⟩ = some (.int .i64 (raw R k).kind) ∧ w.cell? ⟨b, o + k * 4 + 1, none⟩ = some (.int .i64 (raw R k).a) ∧ w.cell? ⟨b, o + k * 4 + 2, none⟩ = some (.int .i64 (raw R k).b) ∧ w.cell? ⟨b, o + k * 4 + 3, none⟩ = some (.int .i64 (raw R k).c) := by
  rcases H with ⟨h1, _⟩ | ⟨b, o, e, H⟩
  · omega
  · exact ⟨b, o, e, H.lt, H.ok k hk, H.c0 k hk, H.c1 k hk, H.c2 k hk, H.c3 k hk⟩

set_option maxHeartbeats 40000000 in
set_option maxRecDepth 4000 in
theorem kcat_any (a : Option Addr) (n c : Nat) (R : List Raw4) (w : World) (H : RawsAt w a n R) :
    Calls Tryd.prog 8 #[.slice a n c] w fun e w' => OutKc w (kB R (min n 9), kE R (min n 9)) e w' := by
  obtain ⟨W1, hW1⟩ : ∃ W1, W1 = w.alloc (.cells #[.slice none 0 0, .slice none 0 0] 25) := ⟨_, rfl⟩
  obtain ⟨W, hW⟩ : ∃ W, W = W1.alloc (.cells #[.slice none 0 0, .slice none 0 0] 25) := ⟨_, rfl⟩
  have z1 : W1.heap.size = w.heap.size + 1 := by rw [hW1]; simp
  have z2 : W.heap.size = w.heap.size + 2 := by rw [hW]; simp [z1]
  have J0 : KcI w (.slice none 0 0) (.slice none 0 0) [] [] W := by
    have k1 := Own.made w 25 [.slice none 0 0, .slice none 0 0]
    have k2 := Own.made W1 25 [.slice none 0 0, .slice none 0 0]
    rw [z1] at k2
    refine ⟨?_, ?_, ownsK_nil _ _, ownsE_nil _ _, ?_, by omega⟩
    · rw [hW, hW1]; exact k1.alloc _
    · rw [hW]; exact k2
    · rw [hW, hW1]; go_grown
  rw [hW1] at hW
  have HJ0 := hid J0
  have HH := hid H
  have hnb := H.nb
  unfold maxLen at hnb
  obtain ⟨N, hN⟩ : ∃ N, min n 9 = N := ⟨_, rfl⟩
  have hN1 : N ≤ n := by omega
  have hN2 : N ≤ 9 := by omega
  have HN := hid (show N = n ∨ (N = 9 ∧ 9 ≤ n) by omega)
  rw [hN]
  clear J0 H hW1 z1 z2 hN
  go_enter Tryd.func8, Tryd.ntmps8
  go_wp2_with fail
  rw [← hW]
  clear hW
  go_loopw [4, 5] (fun t i wr => ∃ (k A m cap m2 cap2 : Nat) (ao ao2 : Option Addr), k ≤ N ∧ i = .int .i64 k ∧ t = .int .i64 A ∧ A ≤ 8 + 6 * k ∧ Hid ((A : Int) = behB (kB R k)) ∧ Hid (KcI w (.slice ao m cap) (.slice ao2 m2 cap2) (kB R k) (kE R k) wr)) (fun _ i _ => N - (RowKit.intOf i).toNat)
  case atStart => exact ⟨0, 8, 0, 0, 0, 0, none, none, Nat.zero_le _, rfl, rfl, by omega, rfl, HJ0⟩
  case round =>
    obtain ⟨k, A, m, cap, m2, cap2, ao, ao2, hk, rfl, rfl, hA, HA, HI⟩ := hrel
    clear HJ0
    by_cases hlt : k < N
    · have hlt' : (k : Int) < n := by omega
      have hlt9 : (k : Int) < 9 := by omega
      obtain ⟨b, o, rfl, hb, ⟨o1, o2, o3, o4⟩, x0, x1, x2, x3⟩ := HH.out.get k (by omega)
      have g0 := (HI.out.below.cell (p := ⟨b, o + k * 4, none⟩) hb).trans x0
      have g1 := (HI.out.below.cell (p := ⟨b, o + k * 4 + 1, none⟩) hb).trans x1
      have g2 := (HI.out.below.cell (p := ⟨b, o + k * 4 + 2, none⟩) hb).trans x2
      have g3 := (HI.out.below.cell (p := ⟨b, o + k * 4 + 3, none⟩) hb).trans x3
      have KB : Hid (kB R (k + 1) = kB R k ++ [⟨A, pick (raw R k).a 140⟩]) := by show _ = _; rw [kB, HA.out]
      have KE : Hid (kE R (k + 1) = kE R k ++ [⟨kName k, pick (raw R k).b (k + 1), pick (raw R k).c 600, pick (raw R k).kind 201⟩]) := rfl
      have KN := kB_beh R k
      rw [← HA.out] at KN
      have b1 := pick_bd (raw R k).a 140 (by omega)
      unfold i64Ok at o1 o2 o3 o4
      have P1 := hid (fun wx => picked_any (raw R k).a 140 wx (by omega) (by omega) (by omega) (by omega))
      have P2 := hid (fun wx => picked_any (raw R k).b ((k : Int) + 1) wx (by omega) (by omega) (by omega) (by omega))
      have P3 := hid (fun wx => picked_any (raw R k).c 600 wx (by omega) (by omega) (by omega) (by omega))
      have P4 := hid (fun wx => picked_any (raw R k).kind 201 wx (by omega) (by omega) (by omega) (by omega))
      obtain ⟨M, hM⟩ : ∃ M : Nat, pick (raw R k).a 140 = M := ⟨(pick (raw R k).a 140).toNat, by omega⟩
      rw [hM] at KB KN P1 b1
      rw [Int.toNat_natCast] at KN
      have CS := hid (fun wx => sectors_ok M wx (by omega))
      have hsec : secs M ≤ 6 := by unfold secs; omega
      have KN' := hid (show ((A + secs M : Nat) : Int) = behB (kB R (k + 1)) by rw [KN]; omega)
      have lB := kB_len R k
      have lE := kE_len R k
      clear x0 x1 x2 x3 hb o1 o2 o3 o4 KN hM HA
      generalize raw R k = r at g0 g1 g2 g3 P1 P2 P3 P4 KE
      obtain ⟨r1, r2, r3, r4⟩ := r
      dsimp only at g0 g1 g2 g3 P1 P2 P3 P4 KE
      generalize pick r3 ((k : Int) + 1) = y1 at P2 KE
      generalize pick r4 600 = y2 at P3 KE
      generalize pick r1 201 = y3 at P4 KE
      obtain ⟨L, hL⟩ : ∃ L, kB R k = L := ⟨_, rfl⟩
      obtain ⟨E, hE⟩ : ∃ E, kE R k = E := ⟨_, rfl⟩
      rw [hL] at HI KB lB
      rw [hE] at HI KE lE
      clear hL hE
      obtain ⟨Q, hQ⟩ : ∃ Q, wr.heap.size = Q := ⟨_, rfl⟩
      have I2 := (HI.out.to ((Below.refl _ wr).alloc (Nat.le_refl _) (.cells #[.int .i64 r1, .int .i64 r2, .int .i64 r3, .int .i64 r4] 55)))
      have X2 : Own (wr.alloc (.cells #[.int .i64 r1, .int .i64 r2, .int .i64 r3, .int .i64 r4] 55)) Q 55 [.int .i64 r1, .int .i64 r2, .int .i64 r3, .int .i64 r4] := by rw [← hQ]; exact Own.made wr 55 [.int .i64 r1, .int .i64 r2, .int .i64 r3, .int .i64 r4]
      have I3 := I2.to ((Below.refl _ _).alloc (Nat.le_refl _) (.cells #[.int .i64 A, .int .i64 M] 41))
      have X3 := X2.alloc (.cells #[.int .i64 A, .int .i64 M] 41)
      have N4 := new_blk ((wr.alloc (.cells #[.int .i64 r1, .int .i64 r2, .int .i64 r3, .int .i64 r4] 55)).alloc (.cells #[.int .i64 A, .int .i64 M] 41)) A M 41
      have I4 := I3.to ((Below.refl _ _).alloc (Nat.le_refl _) (.cells #[.int .i64 A, .int .i64 M] 41))
      have X4 := X3.alloc (.cells #[.int .i64 A, .int .i64 M] 41)
      rw [show ((wr.alloc (.cells #[.int .i64 r1, .int .i64 r2, .int .i64 r3, .int .i64 r4] 55)).alloc (.cells #[.int .i64 A, .int .i64 M] 41)).heap.size = Q + 1 + 1 by simp [hQ]] at N4
      have hv1 : ∀ k, some k = (Value.slice ao m cap).ownBlock → k < Q := fun k e => by rw [← hQ]; exact (World.ownsRow.lt HI.out.K k e.symm).2
      have bx := I3.box.cell (i := 0) rfl
      have hq2 : w.heap.size + 2 ≤ Q := by rw [← hQ]; exact HI.out.size
      have H4 := hid (And.intro I4 (And.intro X4 hv1))
      clear I2 I3 I4 X2 X3 X4 HI hv1
      go_upto_region 9 with (first | (go_at_call 11; refine (P1.out _).mono ?_; rintro _ w9 ⟨rfl, h9⟩; (have h8 := h9.symm); subst h8) | (go_at_call 22; refine (CS.out _).mono ?_; rintro _ w9 ⟨rfl, h9⟩; (have h8 := h9.symm); subst h8))
      go_upto_region 10 with (at_builtin; (refine wpList_appendK _ rfl (.tmp 34) (.tmp 36) rfl (w.heap.size + 2) _ L rfl H4.out.1.K ⟨Q + 1 + 1, 0, none⟩ 1 ⟨A, M⟩ rfl N4 (by omega) H4.out.1.size ?_; intro g5 m5 cap5 w5 hm5 hg5 hown5 hgrow5; have A5 := H4.out.1.app0 hgrow5 hown5; (have y0 := A5.1.cell (i := 0) rfl); (have y1' := A5.1.free 0); have J5 := hid A5.2; (have X5 := hid (((chg_grown hgrow5).own H4.out.2.1 (fun e => by have := H4.out.2.2 _ e; omega)).other (p := ⟨w.heap.size + 1, 0, none⟩) (by show Q ≠ w.heap.size + 1; omega) (.slice (some ⟨g5, 0, none⟩) m5 cap5))); clear hown5 hgrow5 A5))
      clear y0 y1' N4 bx H4 g0 g1 g2 g3
      obtain ⟨W6, hW6⟩ : ∃ W6, W6 = w5.setCell ⟨w.heap.size + 1, 0, none⟩ (.slice (some ⟨g5, 0, none⟩) m5 cap5) := ⟨_, rfl⟩
      rw [← hW6] at J5 X5 ⊢
      clear hW6
      have s0 := X5.out.cell (i := 0) rfl
      have s2 := X5.out.cell (i := 2) rfl
      have s3 := X5.out.cell (i := 3) rfl
      have cb := J5.out.box.cell (i := 1) rfl
      have hl1 : Q < W6.heap.size := X5.out.lt
      have hl2 : w.heap.size + 1 < W6.heap.size := J5.out.box.lt
      have JB := hid ((J5.out.to ((Below.refl _ W6).alloc (Nat.le_refl _) (.cells #[.int .u8 (97 + (k : Int))] 5))).to ((Below.refl _ _).alloc (Nat.le_refl _) (.cells #[.string (kName k), .int .i64 y1, .int .i64 y2, .int .i64 y3] 44)))
      have XB := hid ((X5.out.alloc (.cells #[.int .u8 (97 + (k : Int))] 5)).alloc (.cells #[.string (kName k), .int .i64 y1, .int .i64 y2, .int .i64 y3] 44))
      have NB := new_ent (W6.alloc (.cells #[.int .u8 (97 + (k : Int))] 5)) ⟨kName k, y1, y2, y3⟩ 44
      rw [show (W6.alloc (.cells #[.int .u8 (97 + (k : Int))] 5)).heap.size = W6.heap.size + 1 by simp] at NB
      have HNB := hid NB
      have u1 : IntKind.i64.wrap (97 + (k : Int)) = 97 + (k : Int) := IntWalk.i64_in _ (by omega)
      have u2 : IntKind.u8.wrap (97 + (k : Int)) = 97 + (k : Int) := by rw [IntKind.wrap_u8]; omega
      have u3 : IntKind.i64.wrap ((k : Int) + 1) = (k : Int) + 1 := IntWalk.i64_in _ (by omega)
      have hcv := conv_at1 (97 + (k : Int)) (by omega) (by omega)
      have ha : ∀ wx, (Op.stringOp .add ⟨#[110]⟩ (str [byt (97 + (k : Int))])).run Tryd.prog wx = .ok (.string (kName k)) wx := fun wx => by
        have e : kName k = ⟨#[110]⟩ ++ str [byt (97 + (k : Int))] := by
          show str [110, byt (97 + (k : Int))] = str [110] ++ _
          rw [str_app]; rfl
        rw [e]
        exact run_string_add_sum wx _ _ (by rw [str_size]; simp [ByteArray.size])
      have hv2 : ∀ g, some g = (Value.slice ao2 m2 cap2).ownBlock → g ≠ Q := fun g e h => by
        have h1 := World.ownsRow.lt J5.out.N g e.symm
        subst h
        rcases J5.out.N.2 with ⟨h0, _⟩ | ⟨g', _, _, h0, _, hh, _⟩
        · rw [h0] at e; cases e
        · rw [h0] at e
          cases e
          obtain ⟨Rr, hx⟩ := X5.out
          rw [hx] at hh
          simp at hh
      have HV2 := hid hv2
      clear NB hv2
      clear P1 CS HH HN lB hN1 hnb
      refine wp_region_till (fun w' => w'.cell? ⟨Q, 0, none⟩ = some (.int .i64 r1) ∧ w'.cell? ⟨Q, 2, none⟩ = some (.int .i64 r3) ∧ w'.cell? ⟨Q, 3, none⟩ = some (.int .i64 r4)) (fun w' => w'.cell? ⟨w.heap.size + 1, 1, none⟩ = some (.slice ao2 m2 cap2)) 21 (by kernel_rfl) (by (try dsimp only); go_keep) (by (try dsimp only); go_keep) (fun hT => ?_)
      refine wpTill_take (i := 0) (v := ?v0) rfl (by kernel_rfl) (by kernel_rfl) (by kernel_rfl) (fun _ _ _ h => h) (by rfl) ?hy0 hT ?rest0
      case hy0 => (intro w hSw; (try dsimp only at hSw); go_simp; (first | done | with_reducible rfl))
      clear hT; intro hT; try simp only [Act.put, List.setIfInBounds_toArray, List.set_cons_zero, List.set_cons_succ]
      refine wpTill_late (i := 1) (v := ?v1) rfl (by kernel_rfl) (by kernel_rfl) (by kernel_rfl) (fun _ _ _ h => h) (by rfl) ?hy1 hT ?rest1
      case hy1 => (intro w hSw; (try dsimp only at hSw); go_simp; (first | done | with_reducible rfl))
      clear hT; intro hT; try simp only [Act.put, List.setIfInBounds_toArray, List.set_cons_zero, List.set_cons_succ]
      refine wpTill_take (i := 2) (v := ?v2) rfl (by kernel_rfl) (by kernel_rfl) (by kernel_rfl) (fun _ _ _ h => h) (by rfl) ?hy2 hT ?rest2
      case hy2 => (intro w hSw; (try dsimp only at hSw); go_simp; (first | done | with_reducible rfl))
      clear hT; intro hT; try simp only [Act.put, List.setIfInBounds_toArray, List.set_cons_zero, List.set_cons_succ]
      refine wpTill_take (i := 3) (v := ?v3) rfl (by kernel_rfl) (by kernel_rfl) (by kernel_rfl) (fun _ _ _ h => h) (by rfl) ?hy3 hT ?rest3
      case hy3 => (intro w hSw; (try dsimp only at hSw); go_simp; (first | done | with_reducible rfl))
      clear hT; intro hT; try simp only [Act.put, List.setIfInBounds_toArray, List.set_cons_zero, List.set_cons_succ]
      refine wpTill_take (i := 4) (v := ?v4) rfl (by kernel_rfl) (by kernel_rfl) (by kernel_rfl) (fun _ _ _ h => h) (by rfl) ?hy4 hT ?rest4
      case hy4 => (intro w hSw; (try dsimp only at hSw); go_simp; (first | done | with_reducible rfl))
      clear hT; intro hT; try simp only [Act.put, List.setIfInBounds_toArray, List.set_cons_zero, List.set_cons_succ]
      refine wpTill_take (i := 8) (v := ?v8) rfl (by kernel_rfl) (by kernel_rfl) (by kernel_rfl) (fun _ _ _ h => h) (by rfl) ?hy8 hT ?rest8
      case hy8 => (intro w hSw; (try dsimp only at hSw); go_simp; (first | done | with_reducible rfl))
      clear hT; intro hT; try simp only [Act.put, List.setIfInBounds_toArray, List.set_cons_zero, List.set_cons_succ]
      refine wpTill_take (i := 9) (v := ?v9) rfl (by kernel_rfl) (by kernel_rfl) (by kernel_rfl) (fun _ _ _ h => h) (by rfl) ?hy9 hT ?rest9
      case hy9 => (intro w hSw; (try dsimp only at hSw); go_simp; (first | done | with_reducible rfl))
      clear hT; intro hT; try simp only [Act.put, List.setIfInBounds_toArray, List.set_cons_zero, List.set_cons_succ]
      refine wpTill_take (i := 10) (v := ?v10) rfl (by kernel_rfl) (by kernel_rfl) (by kernel_rfl) (fun _ _ _ h => h) (by rfl) ?hy10 hT ?rest10
      case hy10 => (intro w hSw; (try dsimp only at hSw); go_simp; (first | done | with_reducible rfl))
      clear hT; intro hT; try simp only [Act.put, List.setIfInBounds_toArray, List.set_cons_zero, List.set_cons_succ]
      refine wpTill_take (i := 11) (v := ?v11) rfl (by kernel_rfl) (by kernel_rfl) (by kernel_rfl) (fun _ _ _ h => h) (by rfl) ?hy11 hT ?rest11
      case hy11 => (intro w hSw; (try dsimp only at hSw); go_simp; (first | done | with_reducible rfl))
      clear hT; intro hT; try simp only [Act.put, List.setIfInBounds_toArray, List.set_cons_zero, List.set_cons_succ]
      refine wpTill_call (i := 12) (v := .int .i64 y1) (f := 11) (args := #[.int .i64 r3, .int .i64 ((k : Int) + 1)]) rfl (by kernel_rfl) (by kernel_rfl) (by kernel_rfl) (fun _ _ _ h => h) (by rfl) ?hy12 ?hc12 hT ?rest12
      case hy12 => (intro w hSw; (try dsimp only at hSw); go_simp; (first | done | with_reducible rfl))
      case hc12 => exact P2.out
      clear hT; intro hT; try simp only [Act.put, List.setIfInBounds_toArray, List.set_cons_zero, List.set_cons_succ]
      refine wpTill_take (i := 13) (v := ?v13) rfl (by kernel_rfl) (by kernel_rfl) (by kernel_rfl) (fun _ _ _ h => h) (by rfl) ?hy13 hT ?rest13
      case hy13 => (intro w hSw; (try dsimp only at hSw); go_simp; (first | done | with_reducible rfl))
      clear hT; intro hT; try simp only [Act.put, List.setIfInBounds_toArray, List.set_cons_zero, List.set_cons_succ]
      refine wpTill_take (i := 14) (v := ?v14) rfl (by kernel_rfl) (by kernel_rfl) (by kernel_rfl) (fun _ _ _ h => h) (by rfl) ?hy14 hT ?rest14
      case hy14 => (intro w hSw; (try dsimp only at hSw); go_simp; (first | done | with_reducible rfl))
      clear hT; intro hT; try simp only [Act.put, List.setIfInBounds_toArray, List.set_cons_zero, List.set_cons_succ]
      refine wpTill_call (i := 15) (v := .int .i64 y2) (f := 11) (args := #[.int .i64 r4, .int .i64 (600)]) rfl (by kernel_rfl) (by kernel_rfl) (by kernel_rfl) (fun _ _ _ h => h) (by rfl) ?hy15 ?hc15 hT ?rest15
      case hy15 => (intro w hSw; (try dsimp only at hSw); go_simp; (first | done | with_reducible rfl))
      case hc15 => exact P3.out
      clear hT; intro hT; try simp only [Act.put, List.setIfInBounds_toArray, List.set_cons_zero, List.set_cons_succ]
      refine wpTill_take (i := 16) (v := ?v16) rfl (by kernel_rfl) (by kernel_rfl) (by kernel_rfl) (fun _ _ _ h => h) (by rfl) ?hy16 hT ?rest16
      case hy16 => (intro w hSw; (try dsimp only at hSw); go_simp; (first | done | with_reducible rfl))
      clear hT; intro hT; try simp only [Act.put, List.setIfInBounds_toArray, List.set_cons_zero, List.set_cons_succ]
      refine wpTill_take (i := 17) (v := ?v17) rfl (by kernel_rfl) (by kernel_rfl) (by kernel_rfl) (fun _ _ _ h => h) (by rfl) ?hy17 hT ?rest17
      case hy17 => (intro w hSw; (try dsimp only at hSw); go_simp; (first | done | with_reducible rfl))
      clear hT; intro hT; try simp only [Act.put, List.setIfInBounds_toArray, List.set_cons_zero, List.set_cons_succ]
      refine wpTill_call (i := 18) (v := .int .i64 y3) (f := 11) (args := #[.int .i64 r1, .int .i64 (201)]) rfl (by kernel_rfl) (by kernel_rfl) (by kernel_rfl) (fun _ _ _ h => h) (by rfl) ?hy18 ?hc18 hT ?rest18
      case hy18 => (intro w hSw; (try dsimp only at hSw); go_simp; (first | done | with_reducible rfl))
      case hc18 => exact P4.out
      clear hT; intro hT; try simp only [Act.put, List.setIfInBounds_toArray, List.set_cons_zero, List.set_cons_succ]
      refine wpTill_step (i := 5) rfl (by kernel_rfl) (fun K hK => ?_)
      go_simp
      refine hK.out _ _ ?hS5 ?rest5
      case hS5 => (refine ⟨?_, ?_⟩ <;> (try dsimp only) <;> (try intro _) <;> go_keep)
      clear hT hK K; intro hT; try simp only [Act.put, List.setIfInBounds_toArray, List.set_cons_zero, List.set_cons_succ]
      refine wpTill_step (i := 6) rfl (by kernel_rfl) (fun K hK => ?_)
      go_simp
      refine hK.out _ _ ?hS6 ?rest6
      case hS6 => (refine ⟨?_, ?_⟩ <;> (try dsimp only) <;> (try intro _) <;> go_keep)
      clear hT hK K; intro hT; try simp only [Act.put, List.setIfInBounds_toArray, List.set_cons_zero, List.set_cons_succ]
      refine wpTill_take (i := 7) (v := ?v7) rfl (by kernel_rfl) (by kernel_rfl) (by kernel_rfl) (fun _ _ _ h => h) (by rfl) ?hy7 hT ?rest7
      case hy7 => (intro w hSw; (try dsimp only at hSw); go_simp; (first | done | with_reducible rfl))
      clear hT; intro hT; try simp only [Act.put, List.setIfInBounds_toArray, List.set_cons_zero, List.set_cons_succ]
      refine wpTill_take (i := 19) (v := ?v19) rfl (by kernel_rfl) (by kernel_rfl) (by kernel_rfl) (fun _ _ _ h => h) (by rfl) ?hy19 hT ?rest19
      case hy19 => (intro w hSw; (try dsimp only at hSw); go_simp; (first | done | with_reducible rfl))
      clear hT; intro hT; try simp only [Act.put, List.setIfInBounds_toArray, List.set_cons_zero, List.set_cons_succ]
      refine wpTill_step (i := 20) rfl (by kernel_rfl) (fun K hK => ?_)
      go_simp
      refine hK.out _ _ ?hS20 ?rest20
      case hS20 => (refine ⟨?_, ?_⟩ <;> (try dsimp only) <;> (try intro _) <;> go_keep)
      clear hT hK K; intro hT; try simp only [Act.put, List.setIfInBounds_toArray, List.set_cons_zero, List.set_cons_succ]
      refine wpTill_step (i := 21) rfl (by kernel_rfl) (fun K hK => ?_)
      (refine step_appendE (by rfl) _ _ (by rfl) (w.heap.size + 2) _ E (by rfl) JB.out.N ⟨W6.heap.size + 1, 0, none⟩ 1 ⟨kName k, y1, y2, y3⟩ (by rfl) HNB.out (by omega) JB.out.size ?_; intro g8 m8 cap8 w8 hm8 hg8 hown8 hgrow8; (have A8 := JB.out.drew.app1 hgrow8 hown8); (have t0 := A8.1.cell (i := 1) rfl); (have t1 := A8.1.free 1); (have J8 := hid A8.2); (have X8 := (chg_grown hgrow8).own XB.out.drew (fun e => HV2.out _ e rfl)); (have z0 := X8.cell (i := 0) rfl); (have z2 := X8.cell (i := 2) rfl); (have z3 := X8.cell (i := 3) rfl); (have X9 := X8.other (p := ⟨w.heap.size + 1, 1, none⟩) (by show Q ≠ w.heap.size + 1; omega) (.slice (some ⟨g8, 0, none⟩) m8 cap8)); (have q0 := X9.cell (i := 0) rfl); (have q2 := X9.cell (i := 2) rfl); (have q3 := X9.cell (i := 3) rfl); clear hown8 hgrow8 A8 X8 X9)
      refine hK.out _ _ ?hS21 ?rest21
      case hS21 => (refine ⟨(by (try dsimp only); go_keep), fun h => (by cases h)⟩)
      clear hT hK K; intro hT; try simp only [Act.put, List.setIfInBounds_toArray, List.set_cons_zero, List.set_cons_succ]
      refine wpTill_take (i := 22) (v := ?v22) rfl (by kernel_rfl) (by kernel_rfl) (by kernel_rfl) (fun _ _ _ h => h) (by rfl) ?hy22 hT ?rest22
      case hy22 => (intro w hSw; (try dsimp only at hSw); go_simp; (first | done | with_reducible rfl))
      clear hT; intro hT; try simp only [Act.put, List.setIfInBounds_toArray, List.set_cons_zero, List.set_cons_succ]
      refine wpTill_step (i := 23) rfl (by kernel_rfl) (fun K hK => ?_)
      go_simp
      refine hK.out _ _ ?hS23 ?rest23
      case hS23 => (refine ⟨(by (try dsimp only); go_keep), fun h => (by cases h)⟩)
      clear hT hK K; intro hT; try simp only [Act.put, List.setIfInBounds_toArray, List.set_cons_zero, List.set_cons_succ]
      refine wpTill_done (by kernel_rfl) ?_ _
      all_goals clear s0 s2 s3 cb z0 z2 z3 q0 q2 q3 t0 t1 u1 u2 u3 hcv ha
      all_goals go_wp2
      all_goals go_roundw
      all_goals (first | (case rel => (refine ⟨k + 1, A + secs M, m5, cap5, m8, cap8, some ⟨g5, 0, none⟩, some ⟨g8, 0, none⟩, by omega, by go_num, by go_num, by omega, KN', ?_⟩; rw [KB.out, KE.out]; exact J8)) | skip)
      all_goals (simp [RowKit.intOf]; omega)
    · obtain rfl : k = N := by omega
      have e0 := HI.out.box.cell (i := 0) rfl
      have e1 := HI.out.box.cell (i := 1) rfl
      have r1 := box2_of HI.out.res
      obtain ⟨y0, y1⟩ := ret_box (.slice ao m cap) (.slice ao2 m2 cap2) r1.c0 r1.c1
      obtain ⟨q0, q1, q2, q3, _⟩ := r1
      have FIN : Hid (OutKc w (kB R k, kE R k) (.returned (.agg #[.slice ao m cap, .slice ao2 m2 cap2])) ((wr.setCell ⟨w.heap.size, 0, none⟩ (.slice ao m cap)).setCell ⟨w.heap.size, 1, none⟩ (.slice ao2 m2 cap2))) := by
        refine ⟨ao, m, cap, ao2, m2, cap2, rfl, ?_, Below.res2 HI.out.below (Nat.le_refl _) _ _⟩
        have z0 := chg_set wr w.heap.size 0 (.slice ao m cap)
        have z1 := chg_set (wr.setCell ⟨w.heap.size, 0, none⟩ (.slice ao m cap)) w.heap.size 1 (.slice ao2 m2 cap2)
        exact rows_cat (z1.row (z0.row HI.out.K (fun g hg => by omega)) (fun g hg => by omega)) (z1.row (z0.row HI.out.N (fun g hg => by omega)) (fun g hg => by omega)) (k_bd R k hN2)
      by_cases hkn : k = n
      · have hlt' : ¬ (k : Int) < n := by omega
        clear HI HH HN hkn
        go_wp2
        refine bodyPost_ret (v := .agg #[.slice ao m cap, .slice ao2 m2 cap2]) (by simp [results, Tryd.results8, go_sem, y0, y1]) rfl ?_
        exact FIN.out
      · have h9 : k = 9 ∧ 9 ≤ n := by rcases HN.out with h | h <;> omega
        have hlt' : (k : Int) < n := by omega
        have hlt9 : ¬ (k : Int) < 9 := by omega
        clear HI HH HN hkn h9
        go_wp2
        refine bodyPost_ret (v := .agg #[.slice ao m cap, .slice ao2 m2 cap2]) (by simp [results, Tryd.results8, go_sem, y0, y1]) rfl ?_
        exact FIN.out
end Go.Proofs.YtelgpiedchnncabDoor
