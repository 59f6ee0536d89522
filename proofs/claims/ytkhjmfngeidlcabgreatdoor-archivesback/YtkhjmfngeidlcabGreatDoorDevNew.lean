/- What the program's device.New answers. -/
import Derived.Test.YtkhjmfngeidlcabGreatDoorDevB
import Derived.Test.YtkhjmfngeidlcabGreatDoorMem2
import Derived.Test.YtkhjmfngeidlcabGreatDoorSecA
import Derived.Deep.RegionHeld3
import Derived.BigRegion
namespace Go.Proofs.YtkhjmfngeidlcabGreatDoor
open Go.RowKit Go.Lib

/-- While the new device is filled: the result's box, its own box, its two rows. -/
structure NewI (w0 : World) (B p b b' n : Nat) (V V' : List Value) (w : World) : Prop where
  res : Box2 w B (.slice none 0 0) (.slice none 0 0)
  cbox : Box2 w p (.slice (some ⟨b, 0, none⟩) n n) (.slice (some ⟨b', 0, none⟩) n n)
  s : Own w b 9 V
  l : Own w b' 4 V'
  ge : B + 1 ≤ p ∧ B + 1 ≤ b ∧ B + 1 ≤ b'
  ne : p ≠ b ∧ p ≠ b' ∧ b ≠ b'
  below : Below B w0 w
section
variable {w0 w w' : World} {B p b b' n : Nat} {V V' : List Value}
theorem NewI.to (h : NewI w0 B p b b' n V V' w) (g : Below w.heap.size w w') : NewI w0 B p b b' n V V' w' :=
  ⟨h.res.below g, h.cbox.below g, h.s.below' g, h.l.below' g, h.ge, h.ne, h.below.trans (g.mono (Nat.le_of_lt h.res.lt))⟩
theorem NewI.step (h : NewI w0 B p b b' n V V' w) {k : Nat} (hk : k < V.length) (v : Value) : NewI w0 B p b b' n (V.set k v) V' (w.setCell ⟨b, k, none⟩ v) := by
  obtain ⟨g1, g2, g3⟩ := h.ge
  obtain ⟨n1, n2, n3⟩ := h.ne
  exact ⟨h.res.other (by show B ≠ b; omega) v, h.cbox.other (by show p ≠ b; omega) v, h.s.set hk v, h.l.other (by show b' ≠ b; omega) v, h.ge, h.ne, h.below.setCell (by show B ≤ b; omega) v⟩
end

theorem newI_start {W w0 : World} {B n p b b' : Nat} {S : List ByteArray} (hn : n = S.length) (hB : Below B w0 W) (_hs : W.heap.size = B + 1) (h1 : Box2 W B (.slice none 0 0) (.slice none 0 0))
    {w' : World} (hb : Below (B + 1) W w') (hg : B + 1 ≤ p ∧ B + 1 ≤ b ∧ B + 1 ≤ b') (hne : p ≠ b ∧ p ≠ b' ∧ b ≠ b')
    (hp : w'.heap[p]? = some (.cells #[.slice (some ⟨b, 0, none⟩) n n, .slice (some ⟨b', 0, none⟩) n n] 74 (0, 0)))
    (hbs : w'.heap[b]? = some (.cells (Array.replicate n (.string ⟨#[]⟩)) 9 (0, 0))) (hbl : w'.heap[b']? = some (.cells (Array.replicate n (.bool false)) 4 (0, 0))) :
    NewI w0 B p b b' n (half S 0) (List.replicate n (.bool false)) w' := by
  refine ⟨h1.below2 hb (Nat.lt_succ_self _), box2_of (t := 74) ⟨[], hp⟩, ⟨[], ?_⟩, ⟨[], ?_⟩, hg, hne, hB.trans (hb.mono (by omega))⟩
  · rw [half_none, ← hn, List.append_nil, List.toArray_replicate]; exact hbs
  · rw [List.append_nil, List.toArray_replicate]; exact hbl
theorem three' (W : World) (B : Nat) (hs : W.heap.size = B + 1) (o1 o2 o3 : Obj) : (((W.alloc o1).alloc o2).alloc o3).drew.heap[B + 1]? = some o1 ∧ (((W.alloc o1).alloc o2).alloc o3).drew.heap[B + 1 + 1]? = some o2 ∧ (((W.alloc o1).alloc o2).alloc o3).drew.heap[B + 1 + 1 + 1]? = some o3 ∧ Below (B + 1) W (((W.alloc o1).alloc o2).alloc o3).drew := by
  have z1 : (W.alloc o1).heap.size = B + 2 := by simp [hs]
  have z2 : ((W.alloc o1).alloc o2).heap.size = B + 3 := by simp [hs]
  show (((W.alloc o1).alloc o2).alloc o3).heap[B + 1]? = some o1 ∧ (((W.alloc o1).alloc o2).alloc o3).heap[B + 2]? = some o2 ∧ (((W.alloc o1).alloc o2).alloc o3).heap[B + 3]? = some o3 ∧ _
  refine ⟨?_, ?_, ?_, ((((Below.refl _ W).alloc (by omega) o1).alloc (by omega) o2).alloc (by omega) o3).drew⟩
  · rw [Below.heap_alloc _ _ _ (by omega), Below.heap_alloc _ _ _ (by omega), ← hs]; exact heap_alloc_new W _
  · rw [Below.heap_alloc _ _ _ (by omega), ← z1]; exact heap_alloc_new _ _
  · rw [← z2]; exact heap_alloc_new _ _

/-- The sectors of a new device. -/
def newS (M : Nat) (start : Int) : List ByteArray := (List.range M).map fun (i : Nat) => str (encd (start + i) []).1
theorem newS_len (M : Nat) (start : Int) : (newS M start).length = M := by simp [newS]
theorem newS_at (M : Nat) (start : Int) (k : Nat) (h : k < (newS M start).length) : (newS M start)[k] = str (encd (start + k) []).1 := by simp [newS]

theorem new_bad (many start : Int) (w : World) (h : ¬ (1 ≤ many ∧ many ≤ 64 ∧ 0 ≤ start ∧ start ≤ 512)) :
    Calls Tryz.prog 57 #[.int .i64 many, .int .i64 start] w (OutN w (nil2, 2)) := by
  obtain ⟨W, hW⟩ : ∃ W, W = w.alloc (.cells #[.slice none 0 0, .slice none 0 0] 74) := ⟨_, rfl⟩
  have bd : Box2 W w.heap.size (.slice none 0 0) (.slice none 0 0) := by rw [hW]; exact box2_of (Own.made w 74 [.slice none 0 0, .slice none 0 0])
  have hB : Below w.heap.size w W := by rw [hW]; exact (Below.refl _ w).alloc (Nat.le_refl _) _
  have hK : ∀ w', Below w.heap.size w w' → OutN w (nil2, 2) (.returned (.tuple #[.agg #[.slice none 0 0, .slice none 0 0], .int .i64 2])) w' := fun w' g => outN_none g
  have HK := hid hK
  clear hK bd hB hW W
  by_cases h1 : many < 1
  · clear h
    go_enter Tryz.func57, Tryz.ntmps57
    go_wp2
    refine bodyPost_ret (v := .tuple #[.agg #[.slice none 0 0, .slice none 0 0], .int .i64 2]) (by simp [results, Tryz.results57, go_sem]) rfl ?_
    exact HK.out _ (by go_grown)
  · by_cases h2 : 64 < many
    · clear h
      go_enter Tryz.func57, Tryz.ntmps57
      go_wp2
      refine bodyPost_ret (v := .tuple #[.agg #[.slice none 0 0, .slice none 0 0], .int .i64 2]) (by simp [results, Tryz.results57, go_sem]) rfl ?_
      exact HK.out _ (by go_grown)
    · by_cases h3 : start < 0
      · clear h
        go_enter Tryz.func57, Tryz.ntmps57
        go_wp2
        refine bodyPost_ret (v := .tuple #[.agg #[.slice none 0 0, .slice none 0 0], .int .i64 2]) (by simp [results, Tryz.results57, go_sem]) rfl ?_
        exact HK.out _ (by go_grown)
      · have h4 : 512 < start := by omega
        clear h
        go_enter Tryz.func57, Tryz.ntmps57
        go_wp2
        refine bodyPost_ret (v := .tuple #[.agg #[.slice none 0 0, .slice none 0 0], .int .i64 2]) (by simp [results, Tryz.results57, go_sem]) rfl ?_
        exact HK.out _ (by go_grown)

set_option maxHeartbeats 1600000 in
set_option maxRecDepth 4000 in
theorem new_ok (M : Nat) (start : Int) (w : World) (h0 : 1 ≤ M) (h1 : M ≤ 64) (h2 : 0 ≤ start) (h3 : start ≤ 512) :
    Calls Tryz.prog 57 #[.int .i64 M, .int .i64 start] w (OutN w ((newS M start, List.replicate M false), 0)) := by
  obtain ⟨W, hW⟩ : ∃ W, W = w.alloc (.cells #[.slice none 0 0, .slice none 0 0] 74) := ⟨_, rfl⟩
  have bd : Box2 W w.heap.size (.slice none 0 0) (.slice none 0 0) := by rw [hW]; exact box2_of (Own.made w 74 [.slice none 0 0, .slice none 0 0])
  have hB : Below w.heap.size w W := by rw [hW]; exact (Below.refl _ w).alloc (Nat.le_refl _) _
  have hz : W.heap.size = w.heap.size + 1 := by rw [hW]; simp
  have HW := hid (And.intro hz (And.intro hB (And.intro bd hW)))
  have mk1 := run_make_row' (P := Tryz.prog) 33 9 (.string ⟨#[]⟩) 16 Tryz.underlying33 info_str rfl .i64 .i64 M (by omega) (by omega)
  have mk2 := run_make_row' (P := Tryz.prog) 72 4 (.bool false) 1 Tryz.underlying72 info_bool rfl .i64 .i64 M (by omega) (by omega)
  rw [made_one] at mk1 mk2
  have e1 : ¬ (M : Int) < 1 := by omega
  have e2 : ¬ (64 : Int) < M := by omega
  have e3 : ¬ start < 0 := by omega
  have e4 : ¬ 512 < start := by omega
  have HN := hid (newS_len M start)
  have HA := hid (newS_at M start)
  generalize newS M start = S at HN HA
  clear hz hB bd hW
  go_enter Tryz.func57, Tryz.ntmps57
  go_upto_region 3 with fail
  go_cut [6] (fun s6 wx => ∃ p b b', s6 = .pointer (some ⟨p, 0, none⟩) ∧ NewI w w.heap.size p b b' M (half S 0) (List.replicate M (.bool false)) wx)
  case first =>
    go_region
    all_goals (go_wp2_with fail; go_meet)
    all_goals (obtain ⟨hz, hB, bd, hW⟩ := HW.out; rw [← hW]; apply Exists.intro; apply Exists.intro; apply Exists.intro; refine ⟨rfl, ?_⟩; apply newI_start HN.out.symm hB hz bd (three' W w.heap.size hz _ _ _).2.2.2; (case hp => (first | exact (three' W w.heap.size hz _ _ _).1 | exact (three' W w.heap.size hz _ _ _).2.1 | exact (three' W w.heap.size hz _ _ _).2.2.1)); (case hbs => (first | exact (three' W w.heap.size hz _ _ _).1 | exact (three' W w.heap.size hz _ _ _).2.1 | exact (three' W w.heap.size hz _ _ _).2.2.1)); (case hbl => (first | exact (three' W w.heap.size hz _ _ _).1 | exact (three' W w.heap.size hz _ _ _).2.1 | exact (three' W w.heap.size hz _ _ _).2.2.1)); (case hg => omega); (case hne => omega))
  case rest =>
    obtain ⟨p, b, b', rfl, hI⟩ := hcut
    clear HW mk1 mk2 e1 e2
    have c1 := hI.cbox.c0
    have HI := hid hI
    clear hI
    go_wp2_with fail
    clear c1
    go_loopw [31] (fun i wr => ∃ k : Nat, k ≤ M ∧ i = .int .i64 k ∧ NewI w w.heap.size p b b' M (half S k) (List.replicate M (.bool false)) wr) (fun i _ => M - (intOf i).toNat)
    case atStart => exact ⟨0, Nat.zero_le _, rfl, HI.out⟩
    case round =>
      obtain ⟨k, hk, rfl, hI⟩ := hrel
      clear HI
      by_cases hlt : k < M
      · have hlt' : (k : Int) < M := by omega
        have hS : k < S.length := by rw [HN.out]; exact hlt
        obtain ⟨v, hv⟩ := half_at S k hS
        have u1 : IntKind.i64.wrap (start + (k : Int)) = start + (k : Int) := IntWalk.i64_in _ (by omega)
        have hE := fun wx => encode_any (start + k) ⟨#[]⟩ wx
        have hx : (half S k).set k (.string (str (encd (start + k) []).1)) = half S (k + 1) := by rw [← HA.out k hS]; exact half_step S k hS
        change ∀ wx, Calls Tryz.prog 86 _ wx (fun e w' => e = .returned (.tuple #[.string (str (encd (start + k) []).1), .int .i64 (encd (start + k) []).2]) ∧ Below wx.heap.size wx w') at hE
        generalize encd (start + (k : Int)) [] = r at hE hx
        have HE := hid hE
        have HX := hid (And.intro hv hx)
        have HI := hid hI
        have c0 := hI.cbox.c0
        clear hI hE hv hx
        go_wp2_with fail
        go_region_held3 (fun w' => w'.cell? ⟨p, 0, none⟩ = some (.slice (some ⟨b, 0, none⟩) M M)) (go_keep)
          (first | (go_at_call 86; refine (HE.out _).mono ?_; rintro _ w4 ⟨rfl, g4⟩; (have I4 := HI.out.to (undrew g4)); (have I5 := I4.step (k := k) (by rw [half_len S k (by omega)]; exact hS) (.string (str r.1))); (have j0 := I4.cbox.c0); (have j1 := I4.s.cell HX.out.1); (have j2 := I4.s.free k); (have j3 := I5.cbox.c0); (have H5 := hid I5); clear I4 I5 g4))
        all_goals clear c0 j0 j1 j2 j3
        all_goals go_wp2
        all_goals go_roundw
        all_goals (first | (case rel => exact ⟨k + 1, by omega, by go_num, by rw [← HX.out.2]; exact H5.out⟩) | skip)
        all_goals (simp [intOf]; omega)
      · obtain rfl : k = M := by omega
        have hnl : ¬ (k : Int) < k := by omega
        have u0 := hI.cbox.c0
        have u1 := hI.cbox.c1
        have v0 := hI.res.c0
        have v1 := hI.res.c1
        have x0 := hI.res.f0
        have x1 := hI.res.f1
        obtain ⟨y0, y1⟩ := ret_box (.slice (some ⟨b, 0, none⟩) k k) (.slice (some ⟨b', 0, none⟩) k k) v0 v1
        obtain ⟨g1, g2, g3⟩ := hI.ge
        obtain ⟨n1, n2, n3⟩ := hI.ne
        have k1 := (hI.s.other (p := ⟨w.heap.size, 0, none⟩) (by show b ≠ w.heap.size; omega) (.slice (some ⟨b, 0, none⟩) k k)).other (p := ⟨w.heap.size, 1, none⟩) (by show b ≠ w.heap.size; omega) (.slice (some ⟨b', 0, none⟩) k k)
        have k2 := (hI.l.other (p := ⟨w.heap.size, 0, none⟩) (by show b' ≠ w.heap.size; omega) (.slice (some ⟨b, 0, none⟩) k k)).other (p := ⟨w.heap.size, 1, none⟩) (by show b' ≠ w.heap.size; omega) (.slice (some ⟨b', 0, none⟩) k k)
        have k4 := (hI.below.setCell (p := ⟨w.heap.size, 0, none⟩) (Nat.le_refl _) (.slice (some ⟨b, 0, none⟩) k k)).setCell (p := ⟨w.heap.size, 1, none⟩) (Nat.le_refl _) (.slice (some ⟨b', 0, none⟩) k k)
        rw [show half S k = S.map .string by have := half_all S; rw [HN.out] at this; exact this] at k1
        rw [show List.replicate k (Value.bool false) = (List.replicate k false).map .bool by simp] at k2
        have K := hid (And.intro k1 (And.intro k2 (And.intro (fresh_some (B := w.heap.size) (b := b) (b' := b') (by omega) (by omega)) (And.intro k4 (And.intro n3 (And.intro (show w.heap.size ≤ b by omega) (show w.heap.size ≤ b' by omega)))))))
        clear hI k1 k2 k4 g1 g2 g3 n1 n2 n3
        go_wp2
        refine bodyPost_ret (v := .tuple #[.agg #[.slice (some ⟨b, 0, none⟩) k k, .slice (some ⟨b', 0, none⟩) k k], .int .i64 0]) (by simp [results, Tryz.results57, go_sem, y0, y1]) rfl ?_
        exact ⟨_, k, k, _, k, k, rfl, ⟨.inr ⟨b, rfl, K.out.2.2.2.2.2.1, K.out.1⟩, .inr ⟨b', rfl, K.out.2.2.2.2.2.2, K.out.2.1⟩, fun _ _ x y hx hy => by cases hx; cases hy; exact K.out.2.2.2.2.1⟩, ⟨HN.out.symm, by simp, by unfold maxLen; omega, by unfold maxLen; omega⟩, K.out.2.2.1, K.out.2.2.2.1⟩

theorem new_own (many start : Int) (w : World) : Calls Tryz.prog 57 #[.int .i64 many, .int .i64 start] w (OutN w (dvNew many start)) := by
  unfold dvNew
  by_cases h : 1 ≤ many ∧ many ≤ 64 ∧ 0 ≤ start ∧ start ≤ 512
  · rw [if_pos h]
    obtain ⟨M, rfl⟩ : ∃ M : Nat, many = M := ⟨many.toNat, by omega⟩
    have e : (M : Int).toNat = M := by omega
    rw [e]
    exact new_ok M start w (by omega) (by omega) h.2.2.1 h.2.2.2
  · rw [if_neg h]
    exact new_bad many start w h
end Go.Proofs.YtkhjmfngeidlcabGreatDoor
