/- The entry of a name: the program's answer and the document's. -/
import Derived.Test.YtelgpiedchnncaaCatChkE
import Derived.Test.YtelgpiedchnncaaCatFault
import Derived.Test.YtelgpiedchnncaaCatBox
namespace Go.Proofs.Ytelgpiedchnncaa
open Go.RowKit Go.Lib

/-- A place, or -1. -/
def intO (o : Option Nat) : Int := match o with
  | some i => i
  | none => -1

set_option maxHeartbeats 1000000 in
set_option maxRecDepth 4000 in
theorem index_gen (a : Option Addr) (n c : Nat) (E : List En) (g : Nat) (lb : Array Value) (s : ByteArray) (w : World) (H : EntAt w a n E) (eg : ∀ args w, (callFunc g args).run Try.prog w = .ok (.enter g args) w)
    (hc : ∀ (x : En) wx, Below w.heap.size w wx → Calls Try.prog g (#[.agg #[.string x.s, .int .i64 x.b, .int .i64 x.a, .int .i64 x.n]] ++ lb) wx fun e w' => e = .returned (.bool (x.s.toList == s.toList)) ∧ Below wx.heap.size wx w') :
    Calls Try.prog 28 #[.slice a n c, .func (.func g) #[] lb] w fun e w' => e = .returned (.int .i64 (intO (findN E s n))) ∧ Below w.heap.size w w' := by
  have hnb := H.nb
  unfold maxLen at hnb
  have CT := hid hc
  have HH := hid H
  clear H hc
  go_enter Try.func28, Try.ntmps28
  go_wp2_with fail
  go_loopw [8] (fun i wr => ∃ k : Nat, k ≤ n ∧ i = .int .i64 k ∧ Hid (findN E s k = none) ∧ Hid (Below w.heap.size w wr)) (fun i _ => n - (RowKit.intOf i).toNat)
  case atStart => exact ⟨0, Nat.zero_le _, rfl, rfl, Below.refl _ _⟩
  case round =>
    obtain ⟨k, hk, rfl, h0, G⟩ := hrel
    by_cases hlt : k < n
    · have hlt' : (k : Int) < n := by omega
      obtain ⟨b, o, rfl, hb, x0, x1, x2, x3⟩ := (HH.out.below G.out).c k hlt
      have C1 := hid (CT.out (en E k) wr G.out)
      have HIT := hid (fun he => findN_hit E s k h0.out he n hlt)
      have MISS := hid (fun he => findN_miss E s k h0.out he)
      generalize ((en E k).s.toList == s.toList) = r at C1 HIT MISS
      cases r with
      | true =>
        have R := hid (HIT.out rfl)
        clear HIT MISS CT HH
        go_wp2_with fail
        go_at_fn g
        refine C1.out.mono ?_
        rintro _ w5 ⟨rfl, g5⟩
        go_wp2
        go_ret
        exact ⟨ret_int (by rw [R.out]; rfl), G.out.trans (g5.mono G.out.size)⟩
      | false =>
        have R := hid (MISS.out rfl)
        clear HIT MISS CT HH
        go_wp2_with fail
        go_at_fn g
        refine C1.out.mono ?_
        rintro _ w5 ⟨rfl, g5⟩
        go_wp2
        go_roundw
        case rel => exact ⟨k + 1, by omega, by go_num, R, hid (G.out.trans (g5.mono G.out.size))⟩
        case measure => simp [RowKit.intOf]; omega
    · obtain rfl : k = n := by omega
      have hlt' : ¬ (k : Int) < k := by omega
      go_wp2
      go_ret
      exact ⟨ret_int (by rw [h0.out]; rfl), G.out⟩
theorem index_any (a : Option Addr) (n c : Nat) (E : List En) (q : Nat) (s : ByteArray) (w : World) (H : EntAt w a n E) (hq : w.cell? ⟨q, 0, none⟩ = some (.string s)) :
    Calls Try.prog 28 #[.slice a n c, .func (.func 29) #[] #[.pointer (some ⟨q, 0, none⟩)]] w fun e w' => e = .returned (.int .i64 (intO (findN E s n))) ∧ Below w.heap.size w w' :=
  index_gen a n c E 29 #[.pointer (some ⟨q, 0, none⟩)] s w H (enters_of Try.func29 (by kernel_rfl) rfl) (fun x wx g => tells_any x q s wx ((g.cell (p := ⟨q, 0, none⟩) (cell_lt hq)).trans hq))

/-- What a find answers: an entry and an error. -/
def fndV (r : En × Int) : Value := .tuple #[.agg #[.string r.1.s, .int .i64 r.1.b, .int .i64 r.1.a, .int .i64 r.1.n], .int .i64 r.2]

set_option maxHeartbeats 1600000 in
set_option maxRecDepth 4000 in
theorem cfind_any (a : Option Addr) (n c : Nat) (a' : Option Addr) (m c' : Nat) (C : Ct) (s : ByteArray) (w : World) (H : CatAt w a n c a' m C) :
    Calls Try.prog 17 #[.agg #[.slice a n c, .slice a' m c'], .string s] w fun e w' => e = .returned (fndV (catFind C s)) ∧ Below w.heap.size w w' := by
  obtain ⟨W1, hW1⟩ : ∃ W1, W1 = (w.alloc (.cells #[.slice a n c, .slice a' m c'] 26)).alloc (.cells #[.string s] 9) := ⟨_, rfl⟩
  obtain ⟨W, hW⟩ : ∃ W, W = W1.alloc (.cells #[.string ⟨#[]⟩, .int .i64 0, .int .i64 0, .int .i64 0] 35) := ⟨_, rfl⟩
  have hz1 : W1.heap.size = w.heap.size + 1 + 1 := by rw [hW1]; simp
  have hB : Below w.heap.size w W := by rw [hW, hW1]; go_grown
  have k1 : Own W w.heap.size 26 [.slice a n c, .slice a' m c'] := by rw [hW, hW1]; exact ((Own.made w 26 [.slice a n c, .slice a' m c']).alloc _).alloc _
  have k2 : W.cell? ⟨w.heap.size + 1, 0, none⟩ = some (.string s) := by
    have := Own.made (w.alloc (.cells #[.slice a n c, .slice a' m c'] 26)) 9 [.string s]
    rw [show (w.alloc (.cells #[.slice a n c, .slice a' m c'] 26)).heap.size = w.heap.size + 1 by simp] at this
    rw [hW, hW1]
    exact (this.alloc _).cell rfl
  have k3 : Own W (w.heap.size + 1 + 1) 35 [.string ⟨#[]⟩, .int .i64 0, .int .i64 0, .int .i64 0] := by
    have := Own.made W1 35 [.string ⟨#[]⟩, .int .i64 0, .int .i64 0, .int .i64 0]
    rw [hz1] at this
    rw [hW]; exact this
  have h1 := ccheck_any a n c a' m c' C W (H.below hB)
  rw [hW, hW1] at h1
  have hq : w.heap.size + 1 < W.heap.size := cell_lt k2
  have CI := hid (fun wx (g : Below W.heap.size W wx) => index_any a' m c' C.2 (w.heap.size + 1) s wx ((H.below hB).below g).E ((g.cell (p := ⟨w.heap.size + 1, 0, none⟩) hq).trans k2))
  rw [hW1] at hW
  have HP := hid (And.intro hB (And.intro (box2_of k1) (And.intro (box4_of k3) (And.intro hW (H.below hB)))))
  have hm := H.E.sn
  unfold catFind
  by_cases e : catChk C = 0
  · rw [if_pos e]
    rw [e] at h1
    obtain ⟨_, _, _, t4⟩ := chk_ok C e
    rw [← hm] at t4 ⊢
    have T4 := hid t4
    have H1 := hid h1
    clear hB k1 k2 k3 h1 hW hW1 hz1 hq H e hm t4
    cases hf : findN C.2 s m with
    | none =>
      rw [hf] at CI
      have CI' : Hid (∀ wx, Below W.heap.size W wx → Calls Try.prog 28 #[.slice a' m c', .func (.func 29) #[] #[.pointer (some ⟨w.heap.size + 1, 0, none⟩)]] wx fun e w' => e = .returned (.int .i64 (-1)) ∧ Below wx.heap.size wx w') := CI
      clear CI hf T4
      go_enter Try.func17, Try.ntmps17
      go_wp2_with fail
      refine H1.out.mono ?_
      rintro _ w1 ⟨rfl, g1⟩
      rw [← HP.out.2.2.2.1] at g1
      have d0 := (HP.out.2.1.below g1).c0
      have d1 := (HP.out.2.1.below g1).c1
      have G1 := hid g1
      clear g1 H1
      go_wp2_with fail
      refine (CI'.out _ G1.out).mono ?_
      rintro _ w2 ⟨rfl, g2⟩
      have G2 := hid (G1.out.trans (g2.mono G1.out.size))
      have J := HP.out.2.2.1.below G2.out
      obtain ⟨y0, y1, y2, y3⟩ := J.ret (.string ⟨#[]⟩) (.int .i64 0) (.int .i64 0) (.int .i64 0)
      obtain ⟨r0, r1, r2, r3, q0, q1, q2, q3, _⟩ := J
      clear g2 d0 d1 CI'
      go_wp2
      refine bodyPost_ret (v := fndV (nilE, 6)) (by simp [results, Try.results17, go_sem, y0, y1, y2, y3, fndV, nilE]) rfl ?_
      exact ⟨rfl, Below.four (HP.out.1.trans (G2.out.mono HP.out.1.size)) (by omega) _ _ _ _⟩
    | some i =>
      rw [hf] at CI
      have hi := findN_some C.2 s m i hf
      have CI' : Hid (∀ wx, Below W.heap.size W wx → Calls Try.prog 28 #[.slice a' m c', .func (.func 29) #[] #[.pointer (some ⟨w.heap.size + 1, 0, none⟩)]] wx fun e w' => e = .returned (.int .i64 (i : Int)) ∧ Below wx.heap.size wx w') := CI
      have hi' : (i : Int) < m := by omega
      have nm := nameMay_size _ ((enOk_iff _ _).1 (ent_ok C.2 _ m T4.out i hi)).1
      have CC := hid (fun wx => copyentry_any (en C.2 i) wx (by omega))
      clear CI hf T4 nm
      go_enter Try.func17, Try.ntmps17
      go_wp2_with fail
      refine H1.out.mono ?_
      rintro _ w1 ⟨rfl, g1⟩
      rw [← HP.out.2.2.2.1] at g1
      have d0 := (HP.out.2.1.below g1).c0
      have d1 := (HP.out.2.1.below g1).c1
      have G1 := hid g1
      clear g1 H1
      go_wp2_with fail
      refine (CI'.out _ G1.out).mono ?_
      rintro _ w2 ⟨rfl, g2⟩
      have G2 := hid (G1.out.trans (g2.mono G1.out.size))
      clear g2 d0 d1 CI'
      have d0 := (HP.out.2.1.below G2.out).c0
      have d1 := (HP.out.2.1.below G2.out).c1
      obtain ⟨b, o, rfl, hb, x0, x1, x2, x3⟩ := (HP.out.2.2.2.2.below G2.out).E.c i hi
      go_wp2_with fail
      refine (CC.out _).mono ?_
      rintro _ w3 ⟨rfl, g3⟩
      have G3 := hid (G2.out.trans (g3.mono G2.out.size))
      clear g3 d0 d1 x0 x1 x2 x3
      have J := HP.out.2.2.1.below G3.out
      obtain ⟨x, hx⟩ : ∃ x, en C.2 i = x := ⟨_, rfl⟩
      have HX := hid hx
      rw [hx]
      clear hx CC
      obtain ⟨y0, y1, y2, y3⟩ := J.ret (.string x.s) (.int .i64 x.b) (.int .i64 x.a) (.int .i64 x.n)
      obtain ⟨r0, r1, r2, r3, q0, q1, q2, q3, _⟩ := J
      go_wp2
      refine bodyPost_ret (v := fndV (x, 0)) (by simp [results, Try.results17, go_sem, y0, y1, y2, y3, fndV]) rfl ?_
      exact ⟨by rw [← HX.out]; rfl, Below.four (HP.out.1.trans (G3.out.mono HP.out.1.size)) (by omega) _ _ _ _⟩
  · rw [if_neg e]
    generalize catChk C = T at h1 e
    have e' : (T != 0) = true := by rw [bne_iff_ne]; exact e
    have H1 := hid h1
    clear hB k1 k2 k3 h1 hW hW1 hz1 hq H e hm CI
    go_enter Try.func17, Try.ntmps17
    go_wp2_with fail
    refine H1.out.mono ?_
    rintro _ w1 ⟨rfl, g1⟩
    rw [← HP.out.2.2.2.1] at g1
    have G2 := hid g1
    have J := HP.out.2.2.1.below G2.out
    obtain ⟨y0, y1, y2, y3⟩ := J.ret (.string ⟨#[]⟩) (.int .i64 0) (.int .i64 0) (.int .i64 0)
    obtain ⟨r0, r1, r2, r3, q0, q1, q2, q3, _⟩ := J
    clear g1 H1
    go_wp2
    refine bodyPost_ret (v := fndV (nilE, T)) (by simp [results, Try.results17, go_sem, y0, y1, y2, y3, fndV, nilE]) rfl ?_
    exact ⟨rfl, Below.four (HP.out.1.trans (G2.out.mono HP.out.1.size)) (by omega) _ _ _ _⟩

set_option maxHeartbeats 1600000 in
set_option maxRecDepth 4000 in
theorem reffind_any (a : Option Addr) (n c : Nat) (a' : Option Addr) (m c' : Nat) (C : Ct) (s : ByteArray) (w : World) (H : CatAt w a n c a' m C) :
    Calls Try.prog 18 #[.agg #[.slice a n c, .slice a' m c'], .string s] w fun e w' => e = .returned (fndV (catFind C s)) ∧ Below w.heap.size w w' := by
  obtain ⟨W1, hW1⟩ : ∃ W1, W1 = w.alloc (.cells #[.slice a n c, .slice a' m c'] 26) := ⟨_, rfl⟩
  obtain ⟨W, hW⟩ : ∃ W, W = W1.alloc (.cells #[.string ⟨#[]⟩, .int .i64 0, .int .i64 0, .int .i64 0] 35) := ⟨_, rfl⟩
  have hz1 : W1.heap.size = w.heap.size + 1 := by rw [hW1]; simp
  have hB : Below w.heap.size w W := by rw [hW, hW1]; go_grown
  have k1 : Own W w.heap.size 26 [.slice a n c, .slice a' m c'] := by rw [hW, hW1]; exact (Own.made w 26 [.slice a n c, .slice a' m c']).alloc _
  have k3 : Own W (w.heap.size + 1) 35 [.string ⟨#[]⟩, .int .i64 0, .int .i64 0, .int .i64 0] := by
    have := Own.made W1 35 [.string ⟨#[]⟩, .int .i64 0, .int .i64 0, .int .i64 0]
    rw [hz1] at this
    rw [hW]; exact this
  have h1 := fault_any a n c a' m c' C W (H.below hB)
  rw [hW, hW1] at h1
  rw [hW1] at hW
  have HP := hid (And.intro hB (And.intro (box2_of k1) (And.intro (box4_of k3) (And.intro hW (H.below hB)))))
  have hm := H.E.sn
  unfold catFind
  by_cases e : catChk C = 0
  · rw [if_pos e]
    rw [e] at h1
    obtain ⟨_, t2, _, _⟩ := chk_ok C e
    rw [← hm] at t2 ⊢
    have H1 := hid h1
    clear hB k1 k3 h1 hW hW1 hz1 H e hm
    obtain ⟨R, hR⟩ : ∃ R : En × Int, R = fndO C.2 (findN C.2 s m) := ⟨_, rfl⟩
    rw [← hR]
    have HR := hid hR
    clear hR
    go_enter Try.func18, Try.ntmps18
    go_wp2_with fail
    refine H1.out.mono ?_
    rintro _ w1 ⟨rfl, g1⟩
    rw [← HP.out.2.2.2.1] at g1
    have d0 := (HP.out.2.1.below g1).c0
    have d1 := (HP.out.2.1.below g1).c1
    have G1 := hid g1
    clear g1 H1
    go_wp2_with fail
    go_loopw [7] (fun i wr => ∃ k : Nat, k ≤ m ∧ i = .int .i64 k ∧ Hid (findN C.2 s k = none) ∧ wr = w1) (fun i _ => m - (RowKit.intOf i).toNat)
    case atStart => exact ⟨0, Nat.zero_le _, rfl, rfl, rfl⟩
    case round =>
      obtain ⟨k, hk, rfl, h0, rfl⟩ := hrel
      have J := HP.out.2.2.1.below G1.out
      by_cases hlt : k < m
      · have hlt' : (k : Int) < m := by omega
        obtain ⟨b, o, rfl, hb, x0, x1, x2, x3⟩ := (HP.out.2.2.2.2.below G1.out).E.c k hlt
        cases he : ((en C.2 k).s.toList == s.toList) with
        | true =>
          have F := hid (show R = (en C.2 k, 0) by rw [HR.out, findN_hit C.2 s k h0.out he m hlt]; rfl)
          generalize en C.2 k = x at x0 x1 x2 x3 he F
          obtain ⟨y0, y1, y2, y3⟩ := J.ret (.string x.s) (.int .i64 x.b) (.int .i64 x.a) (.int .i64 x.n)
          obtain ⟨r0, r1, r2, r3, q0, q1, q2, q3, _⟩ := J
          go_wp2
          refine bodyPost_ret (v := fndV (x, 0)) (by simp [results, Try.results18, go_sem, y0, y1, y2, y3, fndV]) rfl ?_
          exact ⟨by rw [F.out], Below.four (HP.out.1.trans (G1.out.mono HP.out.1.size)) (by omega) _ _ _ _⟩
        | false =>
          have F := hid (findN_miss C.2 s k h0.out he)
          generalize en C.2 k = x at x0 x1 x2 x3 he
          clear J
          go_wp2
          go_roundw
          case rel => exact ⟨k + 1, by omega, by go_num, F, by first | rfl | trivial⟩
          case measure => simp [RowKit.intOf]; omega
      · obtain rfl : k = m := by omega
        have hlt' : ¬ (k : Int) < k := by omega
        have F := hid (show R = (nilE, 6) by rw [HR.out, h0.out]; rfl)
        obtain ⟨y0, y1, y2, y3⟩ := J.ret (.string ⟨#[]⟩) (.int .i64 0) (.int .i64 0) (.int .i64 0)
        obtain ⟨r0, r1, r2, r3, q0, q1, q2, q3, _⟩ := J
        go_wp2
        refine bodyPost_ret (v := fndV (nilE, 6)) (by simp [results, Try.results18, go_sem, y0, y1, y2, y3, fndV, nilE]) rfl ?_
        exact ⟨by rw [F.out], Below.four (HP.out.1.trans (G1.out.mono HP.out.1.size)) (by omega) _ _ _ _⟩
  · rw [if_neg e]
    generalize catChk C = T at h1 e
    have e' : (T != 0) = true := by rw [bne_iff_ne]; exact e
    have H1 := hid h1
    clear hB k1 k3 h1 hW hW1 hz1 H e hm
    go_enter Try.func18, Try.ntmps18
    go_wp2_with fail
    refine H1.out.mono ?_
    rintro _ w1 ⟨rfl, g1⟩
    rw [← HP.out.2.2.2.1] at g1
    have G2 := hid g1
    have J := HP.out.2.2.1.below G2.out
    obtain ⟨y0, y1, y2, y3⟩ := J.ret (.string ⟨#[]⟩) (.int .i64 0) (.int .i64 0) (.int .i64 0)
    obtain ⟨r0, r1, r2, r3, q0, q1, q2, q3, _⟩ := J
    clear g1 H1
    go_wp2
    refine bodyPost_ret (v := fndV (nilE, T)) (by simp [results, Try.results18, go_sem, y0, y1, y2, y3, fndV, nilE]) rfl ?_
    exact ⟨rfl, Below.four (HP.out.1.trans (G2.out.mono HP.out.1.size)) (by omega) _ _ _ _⟩
end Go.Proofs.Ytelgpiedchnncaa
