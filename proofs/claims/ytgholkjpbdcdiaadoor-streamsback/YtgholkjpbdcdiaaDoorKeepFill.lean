/- What 'filled' answers: a whole array and its payloads. -/
import Derived.Test.YtgholkjpbdcdiaaDoorKeepData
import Derived.Test.YtgholkjpbdcdiaaDoorKeepRep
import Derived.Test.YtgholkjpbdcdiaaDoorArrNew
import Derived.Test.YtgholkjpbdcdiaaDoorArrWrite
import Derived.Test.YtgholkjpbdcdiaaDoorHigh
namespace Go.Proofs.YtgholkjpbdcdiaaDoor
open Go.RowKit Go.Lib

/-- Cells stay where something is stored over what none of them is. -/
theorem RowAt.but {w : World} {x : Option Addr} {V : List Value} (h : RowAt w x V) {p : Addr} {c : Value} (hp : w.cell? p = some c) (hV : c ∉ V) (u : Value) : RowAt (w.setCell p u) x V := by
  intro i v hv
  obtain ⟨b, o, e, hlt, hc⟩ := h i v hv
  refine ⟨b, o, e, by simpa [World.setCell] using hlt, ?_⟩
  rw [World.cell?_setCell_other _ _ _ _ (fun e2 => ?_)]
  · exact hc
  · rw [e2, hc] at hp
    exact hV (Option.some.inj hp ▸ List.mem_of_getElem? hv)
/-- A text that is no sector is stored over. -/
theorem ArrFree.text {w : World} {b o n : Nat} {h : Nat → Hd} {A : Ar} (H : ArrFree w b o n h A) (h30 : ∀ i, i < n → ∀ s ∈ (dev A i).1, s.size = 30) {p : Addr} {t : ByteArray} (hp : w.cell? p = some (.string t)) (ht : t.size ≠ 30) (u : Value) : ArrFree (w.setCell p u) b o n h A := by
  refine ⟨⟨H.arr.sn, H.arr.nb, by have := H.arr.lt; simpa [World.setCell] using this, fun i hi => ?_, fun i hi => ?_, fun i hi => ?_⟩, fun j => ?_⟩
  · rw [World.cell?_setCell_other _ _ _ _ (fun e => by have := H.arr.c0 i hi; rw [← e, hp] at this; cases this)]; exact H.arr.c0 i hi
  · rw [World.cell?_setCell_other _ _ _ _ (fun e => by have := H.arr.c1 i hi; rw [← e, hp] at this; cases this)]; exact H.arr.c1 i hi
  · have d := H.arr.dv i hi
    refine ⟨d.sn, d.sm, d.S.but hp (fun hm => ?_) u, d.L.but hp (fun hm => ?_) u, d.nb, d.mb⟩
    · obtain ⟨s, hs, e⟩ := List.mem_map.1 hm
      cases e
      exact ht (h30 i hi _ hs)
    · obtain ⟨s, _, e⟩ := List.mem_map.1 hm
      cases e
  · rw [World.frozen?_setCell]; exact H.free j
theorem may_30 (A : Ar) (h : arMay A = true) : ∀ i, i < 3 → ∀ s ∈ (dev A i).1, s.size = 30 := fun i hi s hs => by
  have hm := (arMay_iff A).1 h
  exact ((dvMay_iff _).1 (hm.2.1 _ (dev_mem A i (by rw [hm.1]; exact hi)))).2 s hs

/-- Payloads as cells. -/
def textsV (all : List (List UInt8)) : List Value := all.map fun p => .string (str p)
theorem textsV_set (all : List (List UInt8)) (k : Nat) (p : List UInt8) : textsV (all.set k p) = (textsV all).set k (.string (str p)) := by simp [textsV, List.map_set]
theorem textsV_at (all : List (List UInt8)) (k : Nat) (h : k < all.length) : (textsV all)[k]? = some (.string (str (pay all k))) := by rw [pay_lt k h]; simp [textsV, h]
theorem textsV_len (all : List (List UInt8)) : (textsV all).length = all.length := by simp [textsV]
theorem rep0 (n : Nat) : repeatL [0] n = List.replicate n 0 := by
  induction n with
  | zero => rfl
  | succ n ih => simp [repeatL, ih, List.replicate_succ]
theorem zeros_texts (n : Nat) : textsV (zeros n) = List.replicate n (.string (str (List.replicate 24 0))) := by simp [textsV, zeros]

/-- While an array is filled: the result's box, the array's box, its payloads. -/
structure FlI (w : World) (pr pa b2 N : Nat) (aa al : List (List UInt8)) (W : World) : Prop where
  rc : W.cell? ⟨pr, 0, none⟩ = some (.slice none 0 0)
  rf : W.frozen? ⟨pr, 0, none⟩ = false
  ab : ∃ b c h, W.cell? ⟨pa, 0, none⟩ = some (.slice (some ⟨b, 0, none⟩) 3 c) ∧ ArrFree W b 0 3 h (goodA aa) ∧ w.heap.size ≤ b ∧ pr ≠ b ∧ pa ≠ b
  af : W.frozen? ⟨pa, 0, none⟩ = false
  ow : Own W b2 9 (textsV al)
  ge : w.heap.size ≤ pr ∧ w.heap.size ≤ pa ∧ w.heap.size ≤ b2
  ne : pr ≠ pa ∧ pr ≠ b2 ∧ pa ≠ b2
  lt : pr < W.heap.size ∧ pa < W.heap.size
  aa : Alls aa ∧ aa.length = N
  al : Alls al ∧ al.length = N
  below : Below w.heap.size w W
section
variable {w W W' : World} {pr pa b2 N : Nat} {aa al : List (List UInt8)}
theorem FlI.to (H : FlI w pr pa b2 N aa al W) (g : Below W.heap.size W W') : FlI w pr pa b2 N aa al W' := by
  obtain ⟨b, c, h, h1, h2, h3⟩ := H.ab
  exact ⟨(g.cell (p := ⟨pr, 0, none⟩) H.lt.1).trans H.rc, (g.frozen (p := ⟨pr, 0, none⟩) H.lt.1).trans H.rf, ⟨b, c, h, (g.cell (p := ⟨pa, 0, none⟩) H.lt.2).trans h1, h2.below g, h3⟩,
    (g.frozen (p := ⟨pa, 0, none⟩) H.lt.2).trans H.af, H.ow.below' g, H.ge, H.ne, ⟨Nat.lt_of_lt_of_le H.lt.1 g.size, Nat.lt_of_lt_of_le H.lt.2 g.size⟩, H.aa, H.al, bel3 H.below g⟩
/-- Another array is stored into its box. -/
theorem FlI.setA (H : FlI w pr pa b2 N aa al W) {b c : Nat} {h : Nat → Hd} {ab : List (List UInt8)} (hf : ArrFree W b 0 3 h (goodA ab)) (hb : w.heap.size ≤ b) (h1 : pr ≠ b) (h2 : pa ≠ b) (hal : Alls ab ∧ ab.length = N) :
    FlI w pr pa b2 N ab al (W.setCell ⟨pa, 0, none⟩ (.slice (some ⟨b, 0, none⟩) 3 c)) := by
  obtain ⟨b0, c0, h0, k1, _⟩ := H.ab
  refine ⟨?_, ?_, ⟨b, c, h, World.cell?_setCell_same _ _ _ k1, hf.box h2 k1 _, hb, h1, h2⟩, ?_, H.ow.other (p := ⟨pa, 0, none⟩) (fun e => H.ne.2.2 e.symm) _, H.ge, H.ne, ?_, hal, H.al, H.below.setCell (p := ⟨pa, 0, none⟩) H.ge.2.1 _⟩
  · rw [World.cell?_setCell_other _ _ _ _ (fun e => H.ne.1 (congrArg Addr.block e).symm)]; exact H.rc
  · rw [World.frozen?_setCell]; exact H.rf
  · rw [World.frozen?_setCell]; exact H.af
  · have := H.lt; simpa [World.setCell] using this
/-- A payload is stored. -/
theorem FlI.setS (H : FlI w pr pa b2 N aa al W) {Q : Nat} (hQ : Q < al.length) {P : List UInt8} (hP : P.length = 24) :
    (∃ t, W.cell? ⟨b2, Q, none⟩ = some (.string t)) ∧ W.frozen? ⟨b2, Q, none⟩ = false ∧ FlI w pr pa b2 N aa (al.set Q P) (W.setCell ⟨b2, Q, none⟩ (.string (str P))) := by
  obtain ⟨b, c, h, k1, k2, k3⟩ := H.ab
  have hc : W.cell? ⟨b2, Q, none⟩ = some (.string (str (pay al Q))) := H.ow.cell (textsV_at al Q hQ)
  have hs : (str (pay al Q)).size ≠ 30 := by rw [str_size, H.al.1.full Q hQ]; decide
  refine ⟨⟨_, hc⟩, H.ow.free Q, ?_, ?_, ⟨b, c, h, ?_, k2.text (may_30 _ (good_may H.aa.1)) hc hs _, k3⟩, ?_, ?_, H.ge, H.ne, ?_, H.aa, ⟨H.al.1.set Q P hQ hP, by rw [List.length_set]; exact H.al.2⟩, H.below.setCell (p := ⟨b2, Q, none⟩) H.ge.2.2 _⟩
  · rw [World.cell?_setCell_other _ _ _ _ (fun e => H.ne.2.1 (congrArg Addr.block e).symm)]; exact H.rc
  · rw [World.frozen?_setCell]; exact H.rf
  · rw [World.cell?_setCell_other _ _ _ _ (fun e => H.ne.2.2 (congrArg Addr.block e).symm)]; exact k1
  · rw [World.frozen?_setCell]; exact H.af
  · rw [textsV_set]; exact H.ow.set (by rw [textsV_len]; exact hQ) _
  · have := H.lt; simpa [World.setCell] using this
end

/-- A whole array, its payloads, true. -/
def OutFill (w : World) (N : Nat) (e : Ending) (w' : World) : Prop :=
  ∃ all b c h g, e = .returned (.tuple #[.agg #[.slice (some ⟨b, 0, none⟩) 3 c], .slice (some ⟨g, 0, none⟩) N N, .bool true]) ∧ (Alls all ∧ all.length = N) ∧ ArrFree w' b 0 3 h (goodA all) ∧ Own w' g 9 (textsV all) ∧ w.heap.size ≤ b ∧ w.heap.size ≤ g ∧ Below w.heap.size w w'
theorem fl_exit {w W : World} {pr pa b2 N : Nat} {al : List (List UInt8)} (H : FlI w pr pa b2 N al al W) : ∃ b c, W.cell? ⟨pa, 0, none⟩ = some (.slice (some ⟨b, 0, none⟩) 3 c) ∧ OutFill w N (.returned (.tuple #[.agg #[.slice (some ⟨b, 0, none⟩) 3 c], .slice (some ⟨b2, 0, none⟩) N N, .bool true])) (W.setCell ⟨pr, 0, none⟩ (.slice (some ⟨b, 0, none⟩) 3 c)) := by
  obtain ⟨b, c, h, k1, k2, k3, k4, _⟩ := H.ab
  exact ⟨b, c, k1, al, b, c, h, b2, rfl, H.al, k2.box k4 H.rc _, H.ow.other (p := ⟨pr, 0, none⟩) (fun e => H.ne.2.1 e.symm) _, k3, H.ge.2.2, H.below.setCell (p := ⟨pr, 0, none⟩) H.ge.1 _⟩

set_option maxHeartbeats 1600000 in
set_option maxRecDepth 4000 in
theorem filled_any (a : Option Addr) (n c : Nat) (R : List Raw4) (N : Nat) (w : World) (H : RawsAt w a n R) (hp : Pow w) (h1 : 16 ≤ N) (h2 : N ≤ 64) (h3 : N % 2 = 0) :
    Calls Tryd.prog 4 #[.slice a n c, .int .i64 N] w (OutFill w N) := by
  have CN := hid (fun wx => arnew_any N wx)
  rw [new_good N h1 h2 h3] at CN
  have CZ := hid (fun wx => rept_any ⟨#[0]⟩ 24 wx (by show 1 * 24 ≤ _; omega) (by omega))
  rw [show repeatL (⟨#[0]⟩ : ByteArray).data.toList 24 = List.replicate 24 0 from rep0 24] at CZ
  have hzt := zeros_texts N
  generalize str (List.replicate 24 0) = Z at CZ hzt
  have HT := hid (And.intro hzt (And.intro (zeros_alls N h1 h2 h3) (show (zeros N).length = N by simp [zeros])))
  obtain ⟨W, hW⟩ : ∃ W, W = w.alloc (.cells #[.slice none 0 0] 25) := ⟨_, rfl⟩
  have hB : Below w.heap.size w W := by rw [hW]; exact (Below.refl _ w).alloc (Nat.le_refl _) _
  have hz : W.heap.size = w.heap.size + 1 := by rw [hW]; simp
  have rc : W.cell? ⟨w.heap.size, 0, none⟩ = some (.slice none 0 0) := by rw [hW]; simp
  have rf : W.frozen? ⟨w.heap.size, 0, none⟩ = false := by rw [hW]; simp
  have HP := hid (And.intro hB (And.intro hz (And.intro rc rf)))
  have HH := hid (And.intro H hp)
  have hnb := H.nb
  unfold maxLen at hnb
  clear hB hz rc rf H hp hzt h3
  go_enter Tryd.func4, Tryd.ntmps4
  go_upto_region 1 with fail
  rw [← hW]
  clear hW
  go_wp2_with fail
  refine (CN.out _).mono ?_
  rintro _ w1 ⟨⟨x, n1, c1, rfl, hX⟩, g1⟩
  rcases hX with ⟨_, e, _⟩ | ⟨b, h, rfl, hb, hf⟩
  · simp [goodA] at e
  obtain rfl : n1 = 3 := hf.arr.sn
  go_upto_region 2 with fail
  obtain ⟨W1, hW1⟩ : ∃ W1, W1 = w1.alloc (.cells #[.slice (some ⟨b, 0, none⟩) 3 c1] 25) := ⟨_, rfl⟩
  have b1 : Below w1.heap.size w1 W1 := by rw [hW1]; exact (Below.refl _ w1).alloc (Nat.le_refl _) _
  have pc1 : W1.cell? ⟨w1.heap.size, 0, none⟩ = some (.slice (some ⟨b, 0, none⟩) 3 c1) := by rw [hW1]; simp
  have pf1 : W1.frozen? ⟨w1.heap.size, 0, none⟩ = false := by rw [hW1]; simp
  have z1 : w1.heap.size < W1.heap.size := by rw [hW1]; simp
  rw [← hW1]
  have HS := hid (And.intro (hf.below b1) (And.intro hf.arr.lt (And.intro hb (And.intro g1 (And.intro b1 (And.intro pc1 (And.intro pf1 z1)))))))
  clear hW1 hf hb g1 b1 pc1 pf1 z1 CN
  go_wp2_with fail
  refine (CZ.out _).mono ?_
  rintro _ w2 ⟨rfl, g2⟩
  have G2 := hid g2
  clear g2
  go_wp2_with fail
  refine (rep_any w2.heap.size 1 Z N _ (by omega) h2 (by simp) (by simp)).mono ?_
  rintro _ w3 ⟨g, rfl, hg, ho, g3⟩
  have F3 : FlI w w.heap.size w1.heap.size g N (zeros N) (zeros N) w3 := by
    obtain ⟨s1, s2, s3, s4, s5, s6, s7, s8⟩ := HS.out
    obtain ⟨t1, t2, t3, t4⟩ := HP.out
    have ga : Below w2.heap.size w2 (w2.alloc (.cells #[.string Z] 9)) := (Below.refl _ w2).alloc (Nat.le_refl _) _
    have gW : Below W1.heap.size W1 w3 := bel3 (bel3 G2.out ga) g3
    have gw : Below W.heap.size W w3 := bel3 (bel3 s4 s5) gW
    have y1 := s4.size
    have y2 := s5.size
    have y3 := gW.size
    have y4 := G2.out.size
    have y5 := ga.size
    have hlt : w.heap.size < W.heap.size := by omega
    refine ⟨(gw.cell (p := ⟨w.heap.size, 0, none⟩) hlt).trans t3, (gw.frozen (p := ⟨w.heap.size, 0, none⟩) hlt).trans t4, ⟨b, c1, h, (gW.cell (p := ⟨w1.heap.size, 0, none⟩) s8).trans s6, s1.below gW, by omega, by omega, by omega⟩,
      (gW.frozen (p := ⟨w1.heap.size, 0, none⟩) s8).trans s7, by rw [HT.out.1]; exact ho, ⟨Nat.le_refl _, by omega, by omega⟩, ⟨by omega, by omega, by omega⟩, ⟨by omega, by omega⟩, HT.out.2, HT.out.2, bel3 t1 gw⟩
  have S3 := hid F3
  clear F3 ho hg g3 G2 HS HT
  generalize w1.heap.size = pa at S3 ⊢
  go_wp2_with fail
  go_loopw [10, 11] (fun o i wr => ∃ (k : Nat) (al : List (List UInt8)), o = .bool true ∧ k ≤ n ∧ i = .int .i64 k ∧ Hid (FlI w w.heap.size pa g N al al wr)) (fun _ i _ => n - (intOf i).toNat)
  case atStart => exact ⟨0, _, rfl, Nat.zero_le _, rfl, S3.out⟩
  case round =>
    obtain ⟨k, al, rfl, hk, rfl, HI⟩ := hrel
    clear S3
    by_cases hlt : k < n
    · have hlt' : (k : Int) < n := by omega
      by_cases h30 : k < 30
      · have h30' : (k : Int) < 30 := by omega
        rcases HH.out.1 with ⟨h0, _⟩ | ⟨b0, o0, rfl, HR⟩
        · omega
        have HR' := HR.below HI.out.below
        have r0 := HR'.c0 k hlt
        have r1 := HR'.c1 k hlt
        have r2 := HR'.c2 k hlt
        have r3 := HR'.c3 k hlt
        obtain ⟨q0, q1, q2, q3⟩ := HR.ok k hlt
        have CDt := hid (data_any (raw R k) wr q0 q1 q2 q3 (HH.out.2.below HI.out.below))
        clear HR HR'
        generalize raw R k = rr at r0 r1 r2 r3 q0 q1 q2 q3 CDt
        obtain ⟨rk, ra, rb, rd⟩ := rr
        simp only at r0 r1 r2 r3 q0 q1 q2 q3 CDt
        have pb := pick_bd rd N (by omega)
        obtain ⟨Q, hQ⟩ : ∃ Q : Nat, pick rd N = Q := ⟨(pick rd N).toNat, by omega⟩
        have HQ := hid (show Q < N by omega)
        clear pb
        go_wp2_with (go_at_call 5; refine (picked_gen _ _ _ (by assumption) (by omega)).mono ?_; rintro _ w9 ⟨rfl, h9⟩; (have h8 := h9.symm); subst h8)
        refine CDt.out.mono ?_
        rintro _ w4 ⟨⟨s, rfl, hs⟩, g4⟩
        have F4 := hid (HI.out.to g4)
        obtain ⟨m, mn, hm1, hm2⟩ : ∃ m : Nat, min (s.size : Int) 24 = m ∧ m ≤ 24 ∧ m ≤ s.size := ⟨min s.size 24, by omega, by omega, by omega⟩
        clear r0 r1 r2 r3 q0 q1 q2 q3 CDt HI g4 hQ
        go_upto_region 9 with fail
        go_cut [13] (fun v wx => ∃ s' : ByteArray, v = .string s' ∧ s'.size ≤ 24 ∧ wx = w4)
        case first =>
          go_wp2_with fail
          go_meet
          exact ⟨_, rfl, by rw [ext_size _ _ _ hm2]; omega, rfl⟩
        case rest =>
          obtain ⟨t, rfl, ht, rfl⟩ := hcut
          obtain ⟨ba, ca, ha, k1, k2, k3, k4, k5⟩ := F4.out.ab
          have hln := F4.out.al
          have CW := hid (arwrite_any (some ⟨ba, 0, none⟩) 3 ca Q t (goodA al) wc (.inr ⟨ba, 0, ha, rfl, k2.arr⟩))
          rw [good_write hln.1 Q (by rw [hln.2]; exact HQ.out) t.data.toList (by rw [ba_len]; exact ht)] at CW
          have HL := hid hln
          have HT := hid ht
          clear k2 k3 k4 k5 hln mn hm1 hm2 hs
          go_wp2_with fail
          refine CW.out.mono ?_
          rintro _ w5 ⟨⟨x, n2, c2, rfl, hX⟩, g5⟩
          rcases hX with ⟨_, e, _⟩ | ⟨b5, h5, rfl, hb5, hf5⟩
          · simp [goodA] at e
          obtain rfl : n2 = 3 := hf5.arr.sn
          clear k1
          go_upto_region 11 with fail
          obtain ⟨W5, hW5⟩ : ∃ W5, W5 = w5.alloc (.cells #[.slice (some ⟨b5, 0, none⟩) 3 c2] 25) := ⟨_, rfl⟩
          have b5' : Below w5.heap.size w5 W5 := by rw [hW5]; exact (Below.refl _ w5).alloc (Nat.le_refl _) _
          have p5 : W5.cell? ⟨w5.heap.size, 0, none⟩ = some (.slice (some ⟨b5, 0, none⟩) 3 c2) := by rw [hW5]; simp
          rw [← hW5]
          have F6 := (F4.out.to g5).to b5'
          have lt4 := F4.out.lt
          have ge4 := F4.out.below.size
          have A5 := hid (F6.setA (c := c2) (hf5.below b5') (by omega) (by omega) (by omega) (ab := al.set Q (pad t.data.toList)) ⟨HL.out.1.set Q _ (by rw [HL.out.2]; exact HQ.out) (pad_length _ (by rw [ba_len]; exact HT.out)), by rw [List.length_set]; exact HL.out.2⟩)
          obtain ⟨ba', ca', ha', k1, _⟩ := F6.ab
          have k2 := F6.af
          obtain ⟨z, hz⟩ : ∃ z : Nat, z = 24 - t.size := ⟨_, rfl⟩
          have CR := hid (fun wx => rept_any ⟨#[0]⟩ z wx (by show 1 * z ≤ _; omega) (by omega))
          rw [show repeatL (⟨#[0]⟩ : ByteArray).data.toList z = List.replicate z 0 from rep0 z, show ((z : Nat) : Int) = 24 - (t.size : Int) by omega] at CR
          have epad : t ++ str (List.replicate z 0) = str (pad t.data.toList) := by
            rw [show t = str t.data.toList from (str_of t).symm, str_app, str_list, pad, ba_len, hz]
          have zN : (str (List.replicate z 0)).size ≤ 24 := by rw [str_size]; simp; omega
          have HE := hid epad
          generalize str (List.replicate z 0) = NN at CR zN HE
          have Q64 : (Q : Int) < N := by have := HQ.out; omega
          clear hW5 b5' F6 lt4 ge4 hf5 hb5 g5 epad hz CW
          generalize w5.heap.size = px at p5 ⊢
          go_wp2_with fail
          refine (CR.out _).mono ?_
          rintro _ w7 ⟨rfl, g7⟩
          have F7 := A5.out.to g7
          obtain ⟨⟨t0, e1⟩, e2, F8⟩ := F7.setS (Q := Q) (by rw [HL.out.2]; exact HQ.out) (pad_length t.data.toList (by rw [ba_len]; exact HT.out))
          rw [← HE.out] at F8
          have H8 := hid F8
          clear F7 F8 g7 A5 k1 k2 p5
          go_wp2
          go_roundw
          case rel => exact ⟨k + 1, _, rfl, by omega, by go_num, H8.out⟩
          case measure => simp [intOf]; omega
      · have h30' : ¬ (k : Int) < 30 := by omega
        have rc := HI.out.rc
        have rf := HI.out.rf
        obtain ⟨bb, cc, k1, K⟩ := fl_exit HI.out
        have HK := hid K
        have y0 := World.cell?_setCell_same wr ⟨w.heap.size, 0, none⟩ (.slice (some ⟨bb, 0, none⟩) 3 cc) rc
        clear K
        go_wp2
        refine bodyPost_ret (v := .tuple #[.agg #[.slice (some ⟨bb, 0, none⟩) 3 cc], .slice (some ⟨g, 0, none⟩) N N, .bool true]) (by simp [results, Tryd.results4, go_sem, y0]) rfl ?_
        exact HK.out
    · have hlt' : ¬ (k : Int) < n := by omega
      have rc := HI.out.rc
      have rf := HI.out.rf
      obtain ⟨bb, cc, k1, K⟩ := fl_exit HI.out
      have HK := hid K
      have y0 := World.cell?_setCell_same wr ⟨w.heap.size, 0, none⟩ (.slice (some ⟨bb, 0, none⟩) 3 cc) rc
      clear K
      go_wp2
      refine bodyPost_ret (v := .tuple #[.agg #[.slice (some ⟨bb, 0, none⟩) 3 cc], .slice (some ⟨g, 0, none⟩) N N, .bool true]) (by simp [results, Tryd.results4, go_sem, y0]) rfl ?_
      exact HK.out
end Go.Proofs.YtgholkjpbdcdiaaDoor
