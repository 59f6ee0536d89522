/- What 'Hurts' answers: acts of raw numbers. -/
import Derived.Test.YtpnmidkocmokeaaGreatDoorKeepSet
import Derived.Test.YtpnmidkocmokeaaGreatDoorKeepData
namespace Go.Proofs.YtpnmidkocmokeaaGreatDoor
open Go.RowKit Go.Lib

theorem drop_raw (R : List Raw4) (most k : Nat) (h1 : k < R.length) (h2 : k < most) : (R.take most).drop k = raw R k :: (R.take most).drop (k + 1) := by
  have hk : k < (R.take most).length := by simp; omega
  rw [List.drop_eq_getElem_cons hk]
  congr 1
  simp [raw, h1]
/-- A slice of one act, laid behind the raw thing's box. -/
theorem act_laid {w V : World} {T : List Int} {v : Value} {L : List Hact} (H : HtI w T v L V) (X : Hact) : HtI w T v L (V.alloc (.cells (actV X).toArray 54)) ∧ (∀ j u, (actV X)[j]? = some u → (V.alloc (.cells (actV X).toArray 54)).cell? ((⟨V.heap.size, 0, none⟩ : Addr).add j) = some u) ∧ w.heap.size + 1 ≤ (V.alloc (.cells (actV X).toArray 54)).heap.size := by
  have hb : Below V.heap.size V (V.alloc (.cells (actV X).toArray 54)) := (Below.refl _ V).alloc (Nat.le_refl _) _
  refine ⟨H.to hb, fun j u hj => ?_, Nat.le_trans H.lt hb.size⟩
  rw [Addr.add_lit, Nat.zero_add]
  exact (Own.made V 54 (actV X)).cell hj

theorem hurtsGo_cons (d m : Int) (r : Raw4) (l : List Raw4) (T : List Int) : hurtsGo d m (r :: l) T = if pick r.kind 12 < 5 then ⟨4, d, pick r.a m, 0, 0⟩ :: hurtsGo d m l T
    else if pick r.kind 12 < 11 ∧ pick r.a m ∉ T then ⟨5, d, pick r.a m, pick r.b 30, pick r.c 256⟩ :: hurtsGo d m l (pick r.a m :: T)
    else if pick r.kind 12 = 11 then ⟨6, d, 0, 0, 0⟩ :: hurtsGo d m l T
    else hurtsGo d m l T := rfl
/-- How far it is. -/
structure HtK (w : World) (R : List Raw4) (K M most k : Nat) (v : Value) (W : World) : Prop where
  ex : ∃ T L, HtI w T v L W ∧ L.length ≤ k ∧ hurtsGo K M (R.take most) [] = L ++ hurtsGo K M ((R.take most).drop k) T

/-- Acts that came out. -/
def OutActs (w : World) (L : List Hact) (e : Ending) (w' : World) : Prop := ∃ x m cap, e = .returned (.slice x m cap) ∧ ActsAt w' x m L ∧ Below w.heap.size w w'

set_option maxHeartbeats 3200000 in
set_option maxRecDepth 8000 in
theorem hurts_any (a : Option Addr) (n c : Nat) (R : List Raw4) (K N most : Nat) (w : World) (H : RawsAt w a n R) (_hK : K < 3) (h1 : 16 ≤ N) (h2 : N ≤ 64) (hmost : most ≤ 100) :
    Calls Tryz.prog 7 #[.slice a n c, .int .i64 K, .int .i64 N, .int .i64 most] w (OutActs w (hurtsOf R K N most)) := by
  obtain ⟨M, hM⟩ : ∃ M : Nat, M = if K = 2 then N / 2 else N := ⟨_, rfl⟩
  have hM1 : 1 ≤ M := by rw [hM]; split <;> omega
  have hM2 : M ≤ 64 := by rw [hM]; split <;> omega
  have hof : hurtsOf R K N most = hurtsGo K M (R.take most) [] := by
    rw [hurtsOf]
    congr 1
    rw [hM]
    by_cases e : K = 2
    · rw [if_pos e, if_pos (by omega)]; omega
    · rw [if_neg e, if_neg (by omega)]
  rw [hof]
  have mk : (Instr.makeMap 63 none).run Tryz.prog w = .ok (.map (some w.heap.size)) (w.alloc (.map #[] 0)) := run_makeMap_plain w _
  obtain ⟨W, hW⟩ : ∃ W, W = w.alloc (.map #[] 0) := ⟨_, rfl⟩
  have S0 : HtK w R K M most 0 (.slice none 0 0) W := by
    refine ⟨[], [], ⟨by rw [hW]; exact set_new w, World.ownsRow_nil _ _ _ _, by rw [hW]; simp, by rw [hW]; exact (Below.refl _ w).alloc (Nat.le_refl _) _⟩, Nat.le_refl _, by simp⟩
  have HS := hid S0
  have hnb := H.nb
  unfold maxLen at hnb
  have HH := hid (And.intro H H.len)
  rw [← hW] at mk
  clear S0 H hW hof
  go_enter Tryz.func7, Tryz.ntmps7
  go_upto_region 3 with fail
  clear mk
  by_cases e : K = 2
  · have e' : ((K : Int) == 2) = true := by rw [beq_iff_eq]; omega
    have hM3 : (N : Int) / 2 = (M : Int) := by rw [hM, if_pos e]; omega
    clear e hM
    go_wp2_with fail
    try rw [hM3]
    clear hM3
    go_loopw [9, 11] (fun v i wr => ∃ k : Nat, i = .int .i64 k ∧ k ≤ n ∧ k ≤ most ∧ Hid (HtK w R K M most k v wr)) (fun _ i _ => n - (intOf i).toNat)
    case atStart => exact ⟨0, rfl, Nat.zero_le _, Nat.zero_le _, HS.out⟩
    case round =>
      obtain ⟨k, rfl, hkn, hkm, HI⟩ := hrel
      clear HS
      by_cases hlt : k < n
      · have hlt' : (k : Int) < n := by omega
        by_cases hlm : k < most
        · have hlm' : (k : Int) < most := by omega
          obtain ⟨T, L, hI, hL1, hL2⟩ := HI.out.ex
          rw [drop_raw R most k (by rw [← HH.out.2]; exact hlt) hlm, hurtsGo_cons] at hL2
          rcases HH.out.1 with ⟨h0, _⟩ | ⟨b0, o0, rfl, HR⟩
          · omega
          have HR' := HR.below hI.below
          have r0 := HR'.c0 k hlt
          have r1 := HR'.c1 k hlt
          have r2 := HR'.c2 k hlt
          have r3 := HR'.c3 k hlt
          obtain ⟨q0, q1, q2, q3⟩ := HR.ok k hlt
          have HL := hid (And.intro hL1 hL2)
          clear HR HR' hL1 hL2 HI
          generalize raw R k = rr at r0 r1 r2 r3 q0 q1 q2 q3 HL
          obtain ⟨rk, ra, rb, rd⟩ := rr
          simp only at r0 r1 r2 r3 q0 q1 q2 q3 HL
          obtain ⟨V, hV⟩ : ∃ V, V = wr.alloc (.cells #[.int .i64 rk, .int .i64 ra, .int .i64 rb, .int .i64 rd] 49) := ⟨_, rfl⟩
          have bV : Below wr.heap.size wr V := by rw [hV]; exact (Below.refl _ wr).alloc (Nat.le_refl _) _
          have IV := hI.to bV
          have x0 : V.cell? ⟨wr.heap.size, 0, none⟩ = some (.int .i64 rk) := by rw [hV]; simp [go_sem]
          have x1 : V.cell? ⟨wr.heap.size, 1, none⟩ = some (.int .i64 ra) := by rw [hV]; simp [go_sem]
          have x2 : V.cell? ⟨wr.heap.size, 2, none⟩ = some (.int .i64 rb) := by rw [hV]; simp [go_sem]
          have x3 : V.cell? ⟨wr.heap.size, 3, none⟩ = some (.int .i64 rd) := by rw [hV]; simp [go_sem]
          have zV : wr.heap.size < V.heap.size := by rw [hV]; simp
          have HV := hid (And.intro IV (And.intro zV (And.intro (show ∀ b, u9.ownBlock = some b → b < wr.heap.size from fun b hb => (hI.own.lt b hb).2) (show w.heap.size < wr.heap.size from hI.lt))))
          have pu := pick_bd rk 12 (by omega)
          have pq := pick_bd ra M (by omega)
          obtain ⟨u, hu⟩ : ∃ u : Int, pick rk 12 = u := ⟨_, rfl⟩
          obtain ⟨q, hq⟩ : ∃ q : Int, pick ra M = q := ⟨_, rfl⟩
          rw [hu, hq] at HL
          rw [hu] at pu
          rw [hq] at pq
          clear hI IV bV zV
          go_upto_region 9 with fail
          rw [← hV]
          clear hV r0 r1 r2 r3
          generalize wr.heap.size = px at HV x0 x1 x2 x3 ⊢
          by_cases c5 : u < 5
          · rw [if_pos c5] at HL
            have JA := hid (show HtI w T u9 L (V.alloc (.cells #[.int .i64 4, .slice none 0 0, .string ⟨#[]⟩, .int .i64 (K : Int), .int .i64 q, .int .i64 0, .int .i64 0] 54)) ∧ (∀ j u, (actV ⟨4, K, q, 0, 0⟩)[j]? = some u → (V.alloc (.cells #[.int .i64 4, .slice none 0 0, .string ⟨#[]⟩, .int .i64 (K : Int), .int .i64 q, .int .i64 0, .int .i64 0] 54)).cell? ((⟨V.heap.size, 0, none⟩ : Addr).add j) = some u) ∧ w.heap.size + 1 ≤ (V.alloc (.cells #[.int .i64 4, .slice none 0 0, .string ⟨#[]⟩, .int .i64 (K : Int), .int .i64 q, .int .i64 0, .int .i64 0] 54)).heap.size from act_laid HV.out.1 ⟨4, K, q, 0, 0⟩)
            go_wp2_with (first | (go_at_call 8; refine (picked_gen _ _ _ (by assumption) (by omega)).mono ?_; rintro _ w9 ⟨rfl, h9⟩; (have h8 := h9.symm); subst h8) | (at_builtin; (refine wpList_appendA _ rfl (.tmp 45) (.tmp 49) rfl (w.heap.size + 1) u9 L ⟨4, K, q, 0, 0⟩ rfl JA.out.1.own ⟨V.heap.size, 0, none⟩ rfl JA.out.2.1 (by have := HL.out.1; omega) JA.out.2.2 ?_; intro g2 m2 cap2 w2 hm2 hown2 hgrow2; (have J2 := hid (JA.out.1.put hown2 hgrow2)); clear hown2 hgrow2 hm2)))
            go_roundw
            case rel => exact ⟨k + 1, by go_num, by omega, by omega, ⟨T, L ++ [⟨4, K, q, 0, 0⟩], J2.out, by have := HL.out.1; simp; omega, by rw [List.append_assoc]; exact HL.out.2⟩⟩
            case measure => simp [intOf]; omega
          · have c5' : ¬ u < 5 := c5
            rw [if_neg c5] at HL
            by_cases c11 : u < 11
            · have e11 : (u == 11) = false := by rw [beq_eq_false_iff_ne]; omega
              by_cases hT : q ∈ T
              · rw [if_neg (fun h => h.2 hT), if_neg (by omega)] at HL
                have hl := set_look HV.out.1.st q
                rw [decide_eq_true hT] at hl
                go_wp2_with (go_at_call 8; refine (picked_gen _ _ _ (by assumption) (by omega)).mono ?_; rintro _ w9 ⟨rfl, h9⟩; (have h8 := h9.symm); subst h8)
                go_roundw
                case rel => exact ⟨k + 1, by go_num, by omega, by omega, ⟨T, L, HV.out.1, by have := HL.out.1; omega, HL.out.2⟩⟩
                case measure => simp [intOf]; omega
              · rw [if_pos ⟨c11, hT⟩] at HL
                have hl := set_look HV.out.1.st q
                rw [decide_eq_false hT] at hl
                obtain ⟨V3, hp3, s3, g3⟩ := set_put HV.out.1.st q hT
                have I3 := HV.out.1.mark s3 g3
                have npx : w.heap.size ≠ px := by have := HV.out.2.2.2; omega
                have y2 := (World.cell?_of_block (a := ⟨px, 2, none⟩) (g3.block px HV.out.2.1 (fun e => npx (Option.some.inj e).symm))).trans x2
                have y3 := (World.cell?_of_block (a := ⟨px, 3, none⟩) (g3.block px HV.out.2.1 (fun e => npx (Option.some.inj e).symm))).trans x3
                have l3 : px < V3.heap.size := Nat.lt_of_lt_of_le HV.out.2.1 g3.size
                have AL := act_laid I3 ⟨5, K, q, pick rb 30, pick rd 256⟩
                have JB := hid (show HtI w (q :: T) u9 L ((V3.alloc (.cells #[.int .i64 5, .slice none 0 0, .string ⟨#[]⟩, .int .i64 (K : Int), .int .i64 q, .int .i64 (pick rb 30), .int .i64 (pick rd 256)] 54)).drew) ∧ (∀ j u, (actV ⟨5, K, q, pick rb 30, pick rd 256⟩)[j]? = some u → ((V3.alloc (.cells #[.int .i64 5, .slice none 0 0, .string ⟨#[]⟩, .int .i64 (K : Int), .int .i64 q, .int .i64 (pick rb 30), .int .i64 (pick rd 256)] 54)).drew).cell? ((⟨V3.heap.size, 0, none⟩ : Addr).add j) = some u) ∧ w.heap.size + 1 ≤ ((V3.alloc (.cells #[.int .i64 5, .slice none 0 0, .string ⟨#[]⟩, .int .i64 (K : Int), .int .i64 q, .int .i64 (pick rb 30), .int .i64 (pick rd 256)] 54)).drew).heap.size from ⟨AL.1.to ((Below.refl _ _).drew), AL.2.1, AL.2.2⟩)
                have z2 : ((V3.alloc (.cells #[.int .i64 5, .slice none 0 0, .string ⟨#[]⟩, .int .i64 (K : Int), .int .i64 q, .int .i64 (pick rb 30), .int .i64 (pick rd 256)] 54)).drew).cell? ⟨px, 2, none⟩ = some (.int .i64 rb) := (((Below.refl _ V3).alloc (Nat.le_refl _) _).drew.cell (p := ⟨px, 2, none⟩) l3).trans y2
                have z3 : ((V3.alloc (.cells #[.int .i64 5, .slice none 0 0, .string ⟨#[]⟩, .int .i64 (K : Int), .int .i64 q, .int .i64 (pick rb 30), .int .i64 (pick rd 256)] 54)).drew).cell? ⟨px, 3, none⟩ = some (.int .i64 rd) := (((Below.refl _ V3).alloc (Nat.le_refl _) _).drew.cell (p := ⟨px, 3, none⟩) l3).trans y3
                have HZ := hid (And.intro z2 (And.intro z3 (show px < ((V3.alloc (.cells #[.int .i64 5, .slice none 0 0, .string ⟨#[]⟩, .int .i64 (K : Int), .int .i64 q, .int .i64 (pick rb 30), .int .i64 (pick rd 256)] 54)).drew).heap.size from Nat.lt_of_lt_of_le l3 ((Below.refl V3.heap.size V3).alloc (Nat.le_refl _) _).size)))
                have n2 := World.new_ne V3 ⟨px, 2, none⟩ y2
                have n3 := World.new_ne V3 ⟨px, 3, none⟩ y3
                clear AL I3 s3 g3 z2 z3 l3
                go_upto_region 15 with (go_at_call 8; refine (picked_gen _ _ _ (by assumption) (by omega)).mono ?_; rintro _ w9 ⟨rfl, h9⟩; (have h8 := h9.symm); subst h8)
                clear hl hp3 x0 x1 x2 x3
                go_region_held3 (fun w' => w'.cell? ⟨px, 2, none⟩ = some (.int .i64 rb) ∧ w'.cell? ⟨px, 3, none⟩ = some (.int .i64 rd)) (go_keep)
                  (first | (go_at_call 8; refine (picked_gen _ _ _ (by assumption) (by omega)).mono ?_; rintro _ w9 ⟨rfl, h9⟩; (have h8 := h9.symm); subst h8) | (refine step_appendA rfl (.tmp 62) (.tmp 72) rfl (w.heap.size + 1) u9 L ⟨5, K, q, pick rb 30, pick rd 256⟩ rfl JB.out.1.own ⟨V3.heap.size, 0, none⟩ rfl JB.out.2.1 (by have := HL.out.1; omega) JB.out.2.2 ?_; intro g5 m5 cap5 w5 hm5 hown5 hgrow5; (have J5 := hid (JB.out.1.put hown5 hgrow5)); (have k2 := (World.cell?_of_block (a := ⟨px, 2, none⟩) (hgrow5.block px HZ.out.2.2 (fun e => by have := HV.out.2.2.1 px e.symm; omega))).trans HZ.out.1); (have k3 := (World.cell?_of_block (a := ⟨px, 3, none⟩) (hgrow5.block px HZ.out.2.2 (fun e => by have := HV.out.2.2.1 px e.symm; omega))).trans HZ.out.2.1); clear hown5 hgrow5 hm5))
                all_goals go_wp2
                all_goals go_roundw
                all_goals (first | (case rel => exact ⟨k + 1, by go_num, by omega, by omega, ⟨q :: T, L ++ [⟨5, K, q, pick rb 30, pick rd 256⟩], J5.out, by have := HL.out.1; simp; omega, by rw [List.append_assoc]; exact HL.out.2⟩⟩) | skip)
                all_goals (simp [intOf]; omega)
            · have e12 : u = 11 := by omega
              have e11 : (u == 11) = true := by rw [beq_iff_eq]; omega
              rw [if_neg (fun h => c11 h.1), if_pos e12] at HL
              clear e12
              have JA := hid (show HtI w T u9 L (V.alloc (.cells #[.int .i64 6, .slice none 0 0, .string ⟨#[]⟩, .int .i64 (K : Int), .int .i64 0, .int .i64 0, .int .i64 0] 54)) ∧ (∀ j u, (actV ⟨6, K, 0, 0, 0⟩)[j]? = some u → (V.alloc (.cells #[.int .i64 6, .slice none 0 0, .string ⟨#[]⟩, .int .i64 (K : Int), .int .i64 0, .int .i64 0, .int .i64 0] 54)).cell? ((⟨V.heap.size, 0, none⟩ : Addr).add j) = some u) ∧ w.heap.size + 1 ≤ (V.alloc (.cells #[.int .i64 6, .slice none 0 0, .string ⟨#[]⟩, .int .i64 (K : Int), .int .i64 0, .int .i64 0, .int .i64 0] 54)).heap.size from act_laid HV.out.1 ⟨6, K, 0, 0, 0⟩)
              go_wp2_with (first | (go_at_call 8; refine (picked_gen _ _ _ (by assumption) (by omega)).mono ?_; rintro _ w9 ⟨rfl, h9⟩; (have h8 := h9.symm); subst h8) | (at_builtin; (refine wpList_appendA _ rfl (.tmp 77) (.tmp 80) rfl (w.heap.size + 1) u9 L ⟨6, K, 0, 0, 0⟩ rfl JA.out.1.own ⟨V.heap.size, 0, none⟩ rfl JA.out.2.1 (by have := HL.out.1; omega) JA.out.2.2 ?_; intro g2 m2 cap2 w2 hm2 hown2 hgrow2; (have J2 := hid (JA.out.1.put hown2 hgrow2)); clear hown2 hgrow2 hm2)))
              go_roundw
              case rel => exact ⟨k + 1, by go_num, by omega, by omega, ⟨T, L ++ [⟨6, K, 0, 0, 0⟩], J2.out, by have := HL.out.1; simp; omega, by rw [List.append_assoc]; exact HL.out.2⟩⟩
              case measure => simp [intOf]; omega
        · have hlm' : ¬ (k : Int) < most := by omega
          obtain ⟨T, L, hI, hL1, hL2⟩ := HI.out.ex
          have e0 : (R.take most).drop k = [] := List.drop_eq_nil_of_le (by have := HH.out.2; simp; omega)
          rw [e0, show hurtsGo K M [] T = [] from rfl, List.append_nil] at hL2
          obtain ⟨xx, mm, cap, hv, hA⟩ := hI.acts (by omega)
          have HX := hid (And.intro hL2 (And.intro hA hI.below))
          subst hv
          clear hL2 hA hI e0 HI
          go_wp2
          go_ret
          exact ⟨xx, mm, cap, rfl, by rw [HX.out.1]; exact HX.out.2.1, HX.out.2.2⟩
      · have hlt' : ¬ (k : Int) < n := by omega
        obtain ⟨T, L, hI, hL1, hL2⟩ := HI.out.ex
        have e0 : (R.take most).drop k = [] := List.drop_eq_nil_of_le (by have := HH.out.2; simp; omega)
        rw [e0, show hurtsGo K M [] T = [] from rfl, List.append_nil] at hL2
        obtain ⟨xx, mm, cap, hv, hA⟩ := hI.acts (by omega)
        have HX := hid (And.intro hL2 (And.intro hA hI.below))
        subst hv
        clear hL2 hA hI e0 HI
        go_wp2
        go_ret
        exact ⟨xx, mm, cap, rfl, by rw [HX.out.1]; exact HX.out.2.1, HX.out.2.2⟩
  · have e' : ((K : Int) == 2) = false := by rw [beq_eq_false_iff_ne]; omega
    obtain rfl : M = N := by rw [hM, if_neg e]
    clear e hM
    go_wp2_with fail
    go_loopw [9, 11] (fun v i wr => ∃ k : Nat, i = .int .i64 k ∧ k ≤ n ∧ k ≤ most ∧ Hid (HtK w R K M most k v wr)) (fun _ i _ => n - (intOf i).toNat)
    case atStart => exact ⟨0, rfl, Nat.zero_le _, Nat.zero_le _, HS.out⟩
    case round =>
      obtain ⟨k, rfl, hkn, hkm, HI⟩ := hrel
      clear HS
      by_cases hlt : k < n
      · have hlt' : (k : Int) < n := by omega
        by_cases hlm : k < most
        · have hlm' : (k : Int) < most := by omega
          obtain ⟨T, L, hI, hL1, hL2⟩ := HI.out.ex
          rw [drop_raw R most k (by rw [← HH.out.2]; exact hlt) hlm, hurtsGo_cons] at hL2
          rcases HH.out.1 with ⟨h0, _⟩ | ⟨b0, o0, rfl, HR⟩
          · omega
          have HR' := HR.below hI.below
          have r0 := HR'.c0 k hlt
          have r1 := HR'.c1 k hlt
          have r2 := HR'.c2 k hlt
          have r3 := HR'.c3 k hlt
          obtain ⟨q0, q1, q2, q3⟩ := HR.ok k hlt
          have HL := hid (And.intro hL1 hL2)
          clear HR HR' hL1 hL2 HI
          generalize raw R k = rr at r0 r1 r2 r3 q0 q1 q2 q3 HL
          obtain ⟨rk, ra, rb, rd⟩ := rr
          simp only at r0 r1 r2 r3 q0 q1 q2 q3 HL
          obtain ⟨V, hV⟩ : ∃ V, V = wr.alloc (.cells #[.int .i64 rk, .int .i64 ra, .int .i64 rb, .int .i64 rd] 49) := ⟨_, rfl⟩
          have bV : Below wr.heap.size wr V := by rw [hV]; exact (Below.refl _ wr).alloc (Nat.le_refl _) _
          have IV := hI.to bV
          have x0 : V.cell? ⟨wr.heap.size, 0, none⟩ = some (.int .i64 rk) := by rw [hV]; simp [go_sem]
          have x1 : V.cell? ⟨wr.heap.size, 1, none⟩ = some (.int .i64 ra) := by rw [hV]; simp [go_sem]
          have x2 : V.cell? ⟨wr.heap.size, 2, none⟩ = some (.int .i64 rb) := by rw [hV]; simp [go_sem]
          have x3 : V.cell? ⟨wr.heap.size, 3, none⟩ = some (.int .i64 rd) := by rw [hV]; simp [go_sem]
          have zV : wr.heap.size < V.heap.size := by rw [hV]; simp
          have HV := hid (And.intro IV (And.intro zV (And.intro (show ∀ b, u9.ownBlock = some b → b < wr.heap.size from fun b hb => (hI.own.lt b hb).2) (show w.heap.size < wr.heap.size from hI.lt))))
          have pu := pick_bd rk 12 (by omega)
          have pq := pick_bd ra M (by omega)
          obtain ⟨u, hu⟩ : ∃ u : Int, pick rk 12 = u := ⟨_, rfl⟩
          obtain ⟨q, hq⟩ : ∃ q : Int, pick ra M = q := ⟨_, rfl⟩
          rw [hu, hq] at HL
          rw [hu] at pu
          rw [hq] at pq
          clear hI IV bV zV
          go_upto_region 9 with fail
          rw [← hV]
          clear hV r0 r1 r2 r3
          generalize wr.heap.size = px at HV x0 x1 x2 x3 ⊢
          by_cases c5 : u < 5
          · rw [if_pos c5] at HL
            have JA := hid (show HtI w T u9 L (V.alloc (.cells #[.int .i64 4, .slice none 0 0, .string ⟨#[]⟩, .int .i64 (K : Int), .int .i64 q, .int .i64 0, .int .i64 0] 54)) ∧ (∀ j u, (actV ⟨4, K, q, 0, 0⟩)[j]? = some u → (V.alloc (.cells #[.int .i64 4, .slice none 0 0, .string ⟨#[]⟩, .int .i64 (K : Int), .int .i64 q, .int .i64 0, .int .i64 0] 54)).cell? ((⟨V.heap.size, 0, none⟩ : Addr).add j) = some u) ∧ w.heap.size + 1 ≤ (V.alloc (.cells #[.int .i64 4, .slice none 0 0, .string ⟨#[]⟩, .int .i64 (K : Int), .int .i64 q, .int .i64 0, .int .i64 0] 54)).heap.size from act_laid HV.out.1 ⟨4, K, q, 0, 0⟩)
            go_wp2_with (first | (go_at_call 8; refine (picked_gen _ _ _ (by assumption) (by omega)).mono ?_; rintro _ w9 ⟨rfl, h9⟩; (have h8 := h9.symm); subst h8) | (at_builtin; (refine wpList_appendA _ rfl (.tmp 45) (.tmp 49) rfl (w.heap.size + 1) u9 L ⟨4, K, q, 0, 0⟩ rfl JA.out.1.own ⟨V.heap.size, 0, none⟩ rfl JA.out.2.1 (by have := HL.out.1; omega) JA.out.2.2 ?_; intro g2 m2 cap2 w2 hm2 hown2 hgrow2; (have J2 := hid (JA.out.1.put hown2 hgrow2)); clear hown2 hgrow2 hm2)))
            go_roundw
            case rel => exact ⟨k + 1, by go_num, by omega, by omega, ⟨T, L ++ [⟨4, K, q, 0, 0⟩], J2.out, by have := HL.out.1; simp; omega, by rw [List.append_assoc]; exact HL.out.2⟩⟩
            case measure => simp [intOf]; omega
          · have c5' : ¬ u < 5 := c5
            rw [if_neg c5] at HL
            by_cases c11 : u < 11
            · have e11 : (u == 11) = false := by rw [beq_eq_false_iff_ne]; omega
              by_cases hT : q ∈ T
              · rw [if_neg (fun h => h.2 hT), if_neg (by omega)] at HL
                have hl := set_look HV.out.1.st q
                rw [decide_eq_true hT] at hl
                go_wp2_with (go_at_call 8; refine (picked_gen _ _ _ (by assumption) (by omega)).mono ?_; rintro _ w9 ⟨rfl, h9⟩; (have h8 := h9.symm); subst h8)
                go_roundw
                case rel => exact ⟨k + 1, by go_num, by omega, by omega, ⟨T, L, HV.out.1, by have := HL.out.1; omega, HL.out.2⟩⟩
                case measure => simp [intOf]; omega
              · rw [if_pos ⟨c11, hT⟩] at HL
                have hl := set_look HV.out.1.st q
                rw [decide_eq_false hT] at hl
                obtain ⟨V3, hp3, s3, g3⟩ := set_put HV.out.1.st q hT
                have I3 := HV.out.1.mark s3 g3
                have npx : w.heap.size ≠ px := by have := HV.out.2.2.2; omega
                have y2 := (World.cell?_of_block (a := ⟨px, 2, none⟩) (g3.block px HV.out.2.1 (fun e => npx (Option.some.inj e).symm))).trans x2
                have y3 := (World.cell?_of_block (a := ⟨px, 3, none⟩) (g3.block px HV.out.2.1 (fun e => npx (Option.some.inj e).symm))).trans x3
                have l3 : px < V3.heap.size := Nat.lt_of_lt_of_le HV.out.2.1 g3.size
                have AL := act_laid I3 ⟨5, K, q, pick rb 30, pick rd 256⟩
                have JB := hid (show HtI w (q :: T) u9 L ((V3.alloc (.cells #[.int .i64 5, .slice none 0 0, .string ⟨#[]⟩, .int .i64 (K : Int), .int .i64 q, .int .i64 (pick rb 30), .int .i64 (pick rd 256)] 54)).drew) ∧ (∀ j u, (actV ⟨5, K, q, pick rb 30, pick rd 256⟩)[j]? = some u → ((V3.alloc (.cells #[.int .i64 5, .slice none 0 0, .string ⟨#[]⟩, .int .i64 (K : Int), .int .i64 q, .int .i64 (pick rb 30), .int .i64 (pick rd 256)] 54)).drew).cell? ((⟨V3.heap.size, 0, none⟩ : Addr).add j) = some u) ∧ w.heap.size + 1 ≤ ((V3.alloc (.cells #[.int .i64 5, .slice none 0 0, .string ⟨#[]⟩, .int .i64 (K : Int), .int .i64 q, .int .i64 (pick rb 30), .int .i64 (pick rd 256)] 54)).drew).heap.size from ⟨AL.1.to ((Below.refl _ _).drew), AL.2.1, AL.2.2⟩)
                have z2 : ((V3.alloc (.cells #[.int .i64 5, .slice none 0 0, .string ⟨#[]⟩, .int .i64 (K : Int), .int .i64 q, .int .i64 (pick rb 30), .int .i64 (pick rd 256)] 54)).drew).cell? ⟨px, 2, none⟩ = some (.int .i64 rb) := (((Below.refl _ V3).alloc (Nat.le_refl _) _).drew.cell (p := ⟨px, 2, none⟩) l3).trans y2
                have z3 : ((V3.alloc (.cells #[.int .i64 5, .slice none 0 0, .string ⟨#[]⟩, .int .i64 (K : Int), .int .i64 q, .int .i64 (pick rb 30), .int .i64 (pick rd 256)] 54)).drew).cell? ⟨px, 3, none⟩ = some (.int .i64 rd) := (((Below.refl _ V3).alloc (Nat.le_refl _) _).drew.cell (p := ⟨px, 3, none⟩) l3).trans y3
                have HZ := hid (And.intro z2 (And.intro z3 (show px < ((V3.alloc (.cells #[.int .i64 5, .slice none 0 0, .string ⟨#[]⟩, .int .i64 (K : Int), .int .i64 q, .int .i64 (pick rb 30), .int .i64 (pick rd 256)] 54)).drew).heap.size from Nat.lt_of_lt_of_le l3 ((Below.refl V3.heap.size V3).alloc (Nat.le_refl _) _).size)))
                have n2 := World.new_ne V3 ⟨px, 2, none⟩ y2
                have n3 := World.new_ne V3 ⟨px, 3, none⟩ y3
                clear AL I3 s3 g3 z2 z3 l3
                go_upto_region 15 with (go_at_call 8; refine (picked_gen _ _ _ (by assumption) (by omega)).mono ?_; rintro _ w9 ⟨rfl, h9⟩; (have h8 := h9.symm); subst h8)
                clear hl hp3 x0 x1 x2 x3
                go_region_held3 (fun w' => w'.cell? ⟨px, 2, none⟩ = some (.int .i64 rb) ∧ w'.cell? ⟨px, 3, none⟩ = some (.int .i64 rd)) (go_keep)
                  (first | (go_at_call 8; refine (picked_gen _ _ _ (by assumption) (by omega)).mono ?_; rintro _ w9 ⟨rfl, h9⟩; (have h8 := h9.symm); subst h8) | (refine step_appendA rfl (.tmp 62) (.tmp 72) rfl (w.heap.size + 1) u9 L ⟨5, K, q, pick rb 30, pick rd 256⟩ rfl JB.out.1.own ⟨V3.heap.size, 0, none⟩ rfl JB.out.2.1 (by have := HL.out.1; omega) JB.out.2.2 ?_; intro g5 m5 cap5 w5 hm5 hown5 hgrow5; (have J5 := hid (JB.out.1.put hown5 hgrow5)); (have k2 := (World.cell?_of_block (a := ⟨px, 2, none⟩) (hgrow5.block px HZ.out.2.2 (fun e => by have := HV.out.2.2.1 px e.symm; omega))).trans HZ.out.1); (have k3 := (World.cell?_of_block (a := ⟨px, 3, none⟩) (hgrow5.block px HZ.out.2.2 (fun e => by have := HV.out.2.2.1 px e.symm; omega))).trans HZ.out.2.1); clear hown5 hgrow5 hm5))
                all_goals go_wp2
                all_goals go_roundw
                all_goals (first | (case rel => exact ⟨k + 1, by go_num, by omega, by omega, ⟨q :: T, L ++ [⟨5, K, q, pick rb 30, pick rd 256⟩], J5.out, by have := HL.out.1; simp; omega, by rw [List.append_assoc]; exact HL.out.2⟩⟩) | skip)
                all_goals (simp [intOf]; omega)
            · have e12 : u = 11 := by omega
              have e11 : (u == 11) = true := by rw [beq_iff_eq]; omega
              rw [if_neg (fun h => c11 h.1), if_pos e12] at HL
              clear e12
              have JA := hid (show HtI w T u9 L (V.alloc (.cells #[.int .i64 6, .slice none 0 0, .string ⟨#[]⟩, .int .i64 (K : Int), .int .i64 0, .int .i64 0, .int .i64 0] 54)) ∧ (∀ j u, (actV ⟨6, K, 0, 0, 0⟩)[j]? = some u → (V.alloc (.cells #[.int .i64 6, .slice none 0 0, .string ⟨#[]⟩, .int .i64 (K : Int), .int .i64 0, .int .i64 0, .int .i64 0] 54)).cell? ((⟨V.heap.size, 0, none⟩ : Addr).add j) = some u) ∧ w.heap.size + 1 ≤ (V.alloc (.cells #[.int .i64 6, .slice none 0 0, .string ⟨#[]⟩, .int .i64 (K : Int), .int .i64 0, .int .i64 0, .int .i64 0] 54)).heap.size from act_laid HV.out.1 ⟨6, K, 0, 0, 0⟩)
              go_wp2_with (first | (go_at_call 8; refine (picked_gen _ _ _ (by assumption) (by omega)).mono ?_; rintro _ w9 ⟨rfl, h9⟩; (have h8 := h9.symm); subst h8) | (at_builtin; (refine wpList_appendA _ rfl (.tmp 77) (.tmp 80) rfl (w.heap.size + 1) u9 L ⟨6, K, 0, 0, 0⟩ rfl JA.out.1.own ⟨V.heap.size, 0, none⟩ rfl JA.out.2.1 (by have := HL.out.1; omega) JA.out.2.2 ?_; intro g2 m2 cap2 w2 hm2 hown2 hgrow2; (have J2 := hid (JA.out.1.put hown2 hgrow2)); clear hown2 hgrow2 hm2)))
              go_roundw
              case rel => exact ⟨k + 1, by go_num, by omega, by omega, ⟨T, L ++ [⟨6, K, 0, 0, 0⟩], J2.out, by have := HL.out.1; simp; omega, by rw [List.append_assoc]; exact HL.out.2⟩⟩
              case measure => simp [intOf]; omega
        · have hlm' : ¬ (k : Int) < most := by omega
          obtain ⟨T, L, hI, hL1, hL2⟩ := HI.out.ex
          have e0 : (R.take most).drop k = [] := List.drop_eq_nil_of_le (by have := HH.out.2; simp; omega)
          rw [e0, show hurtsGo K M [] T = [] from rfl, List.append_nil] at hL2
          obtain ⟨xx, mm, cap, hv, hA⟩ := hI.acts (by omega)
          have HX := hid (And.intro hL2 (And.intro hA hI.below))
          subst hv
          clear hL2 hA hI e0 HI
          go_wp2
          go_ret
          exact ⟨xx, mm, cap, rfl, by rw [HX.out.1]; exact HX.out.2.1, HX.out.2.2⟩
      · have hlt' : ¬ (k : Int) < n := by omega
        obtain ⟨T, L, hI, hL1, hL2⟩ := HI.out.ex
        have e0 : (R.take most).drop k = [] := List.drop_eq_nil_of_le (by have := HH.out.2; simp; omega)
        rw [e0, show hurtsGo K M [] T = [] from rfl, List.append_nil] at hL2
        obtain ⟨xx, mm, cap, hv, hA⟩ := hI.acts (by omega)
        have HX := hid (And.intro hL2 (And.intro hA hI.below))
        subst hv
        clear hL2 hA hI e0 HI
        go_wp2
        go_ret
        exact ⟨xx, mm, cap, rfl, by rw [HX.out.1]; exact HX.out.2.1, HX.out.2.2⟩
end Go.Proofs.YtpnmidkocmokeaaGreatDoor
