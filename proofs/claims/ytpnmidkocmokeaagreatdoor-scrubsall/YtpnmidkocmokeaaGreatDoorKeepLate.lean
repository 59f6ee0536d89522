/- What is done to one device, act by act; a box that was laid ahead of a call. -/
import Derived.Test.YtpnmidkocmokeaaGreatDoorKeepHurts
namespace Go.Proofs.YtpnmidkocmokeaaGreatDoor
open Go.RowKit Go.Lib

section
variable {all : List (List UInt8)}
/-- .. after each of the acts. -/
theorem hurt_pre (h : Alls all) (k : Nat) (hk : k < 3) : ∀ (l : List Raw4) (T : List Int) (D : Dv), Worn (dn all k) (ds k) (dp all k) T D → ∀ j : Nat, ∃ T' D', hurtAll (With all k D) ((hurtsGo k (dn all k) l T).take j) = With all k D' ∧ Worn (dn all k) (ds k) (dp all k) T' D'
  | [], T, D, hD, j => ⟨T, D, by simp [hurtsGo, hurtAll], hD⟩
  | r :: l, T, D, hD, j => by
    have hb := dn_bd h k
    have hp := pick_bd' r.a (dn all k) (by omega)
    obtain ⟨i, hi⟩ : ∃ i : Nat, pick r.a (dn all k) = i := ⟨(pick r.a (dn all k)).toNat, by omega⟩
    have hik : i < dn all k := by omega
    have hto : (k : Int).toNat = k := by omega
    have hnl : ¬ ((With all k D).length : Int) ≤ (k : Int) := by rw [with_len]; omega
    have hdv : dev (With all k D) k = D := by rw [with_dev k k D hk, if_pos rfl]
    unfold hurtsGo
    rw [hi]
    split
    · obtain ⟨D', e1, w1⟩ := hD.lose i hik
      have e2 : hurt1 (With all k D) ⟨4, k, i, 0, 0⟩ = With all k D' := by
        rw [hurt1_lose _ _ _ hnl D' (by rw [hto, hdv]; exact e1), hto, with_set]
      cases j with
      | zero => exact ⟨T, D, rfl, hD⟩
      | succ j =>
        show ∃ T' D', hurtAll (hurt1 (With all k D) _) _ = _ ∧ _
        rw [e2]
        exact hurt_pre h k hk l T D' w1 j
    · split
      · rename_i hc
        have hb30 := pick_bd' r.b 30 (by omega)
        have hc256 := pick_bd' r.c 256 (by omega)
        obtain ⟨pl, hpl⟩ : ∃ pl : Nat, pick r.b 30 = pl := ⟨(pick r.b 30).toNat, by omega⟩
        obtain ⟨D', e1, w1⟩ := hD.turn i hik hc.2 pl (pick r.c 256) (by omega) hc256.1 (by omega)
        rw [hpl]
        have e2 : hurt1 (With all k D) ⟨5, k, i, pl, pick r.c 256⟩ = With all k D' := by
          rw [hurt1_turn _ _ _ _ _ hnl D' (by rw [hto, hdv]; exact e1), hto, with_set]
        cases j with
        | zero => exact ⟨T, D, rfl, hD⟩
        | succ j =>
          show ∃ T' D', hurtAll (hurt1 (With all k D) _) _ = _ ∧ _
          rw [e2]
          exact hurt_pre h k hk l _ D' w1 j
      · split
        · obtain ⟨E, e1, m1, l1⟩ := with_replace h k hk D hD.may hD.len
          have e2 : hurt1 (With all k D) ⟨6, k, 0, 0, 0⟩ = With all k (blank E) := by
            rw [hurt1_new _ _ hnl, e1]
          cases j with
          | zero => exact ⟨T, D, rfl, hD⟩
          | succ j =>
            show ∃ T' D', hurtAll (hurt1 (With all k D) _) _ = _ ∧ _
            rw [e2]
            exact hurt_pre h k hk l T _ (worn_blank E m1 l1 T) j
        · exact hurt_pre h k hk l T D hD j

theorem stand_pre (h : Alls all) (k : Nat) (hk : k < 3) (l : List Raw4) (most j : Nat) : ∃ T D, hurtAll (goodA all) ((hurtsOf l k all.length most).take j) = With all k D ∧ Worn (dn all k) (ds k) (dp all k) T D := by
  have hw := worn_mk (start := ds k) (dn_bd h k).1 (dn_bd h k).2 (dp_le h k)
  obtain ⟨T, D, e, w⟩ := hurt_pre h k hk (l.take most) [] _ hw j
  refine ⟨T, D, ?_, w⟩
  rw [with_self k hk] at e
  rw [← e, hurtsOf]
  congr 3
  unfold dn
  by_cases e2 : k = 2
  · subst e2; simp
  · rw [if_neg e2, if_neg (by omega)]
theorem hurts_d (d m : Int) : ∀ (l : List Raw4) (T : List Int), ∀ x ∈ hurtsGo d m l T, x.d = d
  | [], T, x, hx => by cases hx
  | r :: l, T, x, hx => by
    rw [hurtsGo_cons] at hx
    split at hx
    · rcases List.mem_cons.1 hx with rfl | hx
      · rfl
      · exact hurts_d d m l T x hx
    · split at hx
      · rcases List.mem_cons.1 hx with rfl | hx
        · rfl
        · exact hurts_d d m l _ x hx
      · split at hx
        · rcases List.mem_cons.1 hx with rfl | hx
          · rfl
          · exact hurts_d d m l T x hx
        · exact hurts_d d m l T x hx
theorem hurts_dev (l : List Raw4) (k : Nat) (hk : k < 3) (m : Int) (most : Nat) : ∀ i, i < (hurtsOf l k m most).length → 0 ≤ (act (hurtsOf l k m most) i).d ∧ (act (hurtsOf l k m most) i).d < 3 := fun i hi => by
  have hm : act (hurtsOf l k m most) i ∈ hurtsOf l k m most := by simp [act, hi]
  have := hurts_d k _ _ _ _ hm
  rw [this]
  omega
theorem stand_may (h : Alls all) (k : Nat) (hk : k < 3) (l : List Raw4) (most : Nat) : ∀ j, j ≤ (hurtsOf l k all.length most).length → arMay (hurtAll (goodA all) ((hurtsOf l k all.length most).take j)) = true := fun j _ => by
  obtain ⟨T, D, e, w⟩ := stand_pre h k hk l most j
  rw [e]
  exact with_may h k hk D w.may w.len
end

/-- An array whose devices have sectors stays where a nil slice is stored over. -/
theorem arr_nils {w : World} {b o n : Nat} {h : Nat → Hd} {A : Ar} (H : Arr w b o n h A) (h1 : ∀ i, i < n → (dev A i).1.length ≠ 0 ∧ (dev A i).2.length ≠ 0) {p : Addr} {x : Option Addr} {c : Nat} (hc : w.cell? p = some (.slice x 0 c)) (v : Value) : Arr (w.setCell p v) b o n h A := by
  refine ⟨H.sn, H.nb, by have := H.lt; simpa [World.setCell] using this, fun i hi => ?_, fun i hi => ?_, fun i hi => (H.dv i hi).slices hc v⟩
  · rw [World.cell?_setCell_other _ _ _ _ (fun e => by
      have h0 := H.c0 i hi
      rw [← e, hc] at h0
      simp only [Option.some.injEq, Value.slice.injEq] at h0
      have := (H.dv i hi).sn
      exact (h1 i hi).1 (by omega))]
    exact H.c0 i hi
  · rw [World.cell?_setCell_other _ _ _ _ (fun e => by
      have h0 := H.c1 i hi
      rw [← e, hc] at h0
      simp only [Option.some.injEq, Value.slice.injEq] at h0
      have := (H.dv i hi).sm
      exact (h1 i hi).2 (by omega))]
    exact H.c1 i hi
theorem arrAt_nils {w : World} {a : Option Addr} {A : Ar} (H : ArrAt w a 3 A) (hm : arMay A = true) {p : Addr} {x : Option Addr} {c : Nat} (hc : w.cell? p = some (.slice x 0 c)) (v : Value) : ArrAt (w.setCell p v) a 3 A := by
  obtain ⟨_, b, o, h, rfl, HA⟩ := may_three H hm
  refine .inr ⟨b, o, h, rfl, arr_nils HA (fun i hi => ?_) hc v⟩
  have hh := (arMay_iff A).1 hm
  have := ((dvMay_iff _).1 (hh.2.1 _ (dev_mem A i (by rw [hh.1]; exact hi)))).1
  omega

/-- The box was laid ahead of the call whose array it gets. -/
def Late (v3 : World) (p : Nat) (Y : Ar) (a5 : Option Addr) (c5 : Nat) (v5 : World) : Prop :=
    (v5.cell? ⟨p, 0, none⟩ = some (.slice none 0 0) ∧ v5.frozen? ⟨p, 0, none⟩ = false ∧ Below v3.heap.size v3 v5) ∧ (v5.setCell ⟨p, 0, none⟩ (.slice a5 3 c5)).cell? ⟨p, 0, none⟩ = some (.slice a5 3 c5) ∧ ArrAt (v5.setCell ⟨p, 0, none⟩ (.slice a5 3 c5)) a5 3 Y ∧ p < (v5.setCell ⟨p, 0, none⟩ (.slice a5 3 c5)).heap.size ∧ Below v3.heap.size v3 (v5.setCell ⟨p, 0, none⟩ (.slice a5 3 c5))
theorem hu_late {v3 U v5 : World} {p c5 : Nat} {a5 : Option Addr} {Y : Ar} (hU : Below v3.heap.size v3 U) (hc : U.cell? ⟨p, 0, none⟩ = some (.slice none 0 0)) (hf : U.frozen? ⟨p, 0, none⟩ = false) (hp : v3.heap.size ≤ p ∧ p < U.heap.size) (h5 : ArrAt v5 a5 3 Y) (hm : arMay Y = true) (g5 : Below U.heap.size U v5) :
    Late v3 p Y a5 c5 v5 := by
  have k1 := (g5.cell (p := ⟨p, 0, none⟩) hp.2).trans hc
  have k2 := (g5.frozen (p := ⟨p, 0, none⟩) hp.2).trans hf
  have gg := bel3 hU g5
  have l := g5.size
  refine ⟨⟨k1, k2, gg⟩, World.cell?_setCell_same _ _ _ k1, arrAt_nils h5 hm k1 _, ?_, gg.setCell (p := ⟨p, 0, none⟩) hp.1 _⟩
  have : p < v5.heap.size := by omega
  simpa [World.setCell] using this


set_option maxHeartbeats 400000 in
theorem sectors_any (n : Int) (w : World) (hn : i64Ok n) : Calls Tryz.prog 4 #[.int .i64 n] w fun e w' => e = .returned (.int .i64 (24 + 2 * pick n 20)) ∧ w' = w := by
  have pb := pick_bd n 20 (by omega)
  go_enter Tryz.func4, Tryz.ntmps4
  go_wp2_with (go_at_call 8; refine (picked_gen _ _ _ (by assumption) (by decide)).mono ?_; rintro _ w9 ⟨rfl, h9⟩; (have h8 := h9.symm); subst h8)
  go_ret
  first | exact ⟨rfl, rfl⟩ | exact ⟨ret_int (by omega), rfl⟩
end Go.Proofs.YtpnmidkocmokeaaGreatDoor
