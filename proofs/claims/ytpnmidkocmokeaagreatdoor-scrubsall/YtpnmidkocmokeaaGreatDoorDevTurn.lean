/- What the program's device.Turn answers. -/
import Derived.Test.YtpnmidkocmokeaaGreatDoorDevWrite
import Derived.Test.YtpnmidkocmokeaaGreatDoorTurned
namespace Go.Proofs.YtpnmidkocmokeaaGreatDoor
open Go.RowKit Go.Lib

/-- What the closure makes of a sector. -/
def turnE (s : ByteArray) (l : Bool) (place by_ : Int) : ByteArray × Bool × Int := if 0 ≤ place ∧ place < 30 ∧ 0 ≤ by_ ∧ by_ ≤ 255 then (str (upBy s.data.toList place.toNat by_), l, 0) else (str [], false, 2)

set_option maxHeartbeats 400000 in
theorem turn1_bad (place by_ : Int) (s : ByteArray) (l : Bool) (pp pb : Nat) (w : World) (hp : w.cell? ⟨pp, 0, none⟩ = some (.int .i64 place)) (hb : w.cell? ⟨pb, 0, none⟩ = some (.int .i64 by_)) (h : ¬ (0 ≤ place ∧ place < 30 ∧ 0 ≤ by_ ∧ by_ ≤ 255)) :
    Calls Tryz.prog 46 #[.string s, .bool l, .pointer (some ⟨pp, 0, none⟩), .pointer (some ⟨pb, 0, none⟩)] w fun e w' => e = .returned (.tuple #[.string (str []), .bool false, .int .i64 2]) ∧ Below w.heap.size w w' := by
  by_cases h1 : place < 0
  · clear h
    go_enter Tryz.func46, Tryz.ntmps46
    go_wp2
    go_ret3
    exact ⟨rfl, Below.refl _ _⟩
  · by_cases h2 : 30 ≤ place
    · clear h
      go_enter Tryz.func46, Tryz.ntmps46
      go_wp2
      go_ret3
      exact ⟨rfl, Below.refl _ _⟩
    · by_cases h3 : by_ < 0
      · clear h
        go_enter Tryz.func46, Tryz.ntmps46
        go_wp2
        go_ret3
        exact ⟨rfl, Below.refl _ _⟩
      · have h4 : 255 < by_ := by omega
        clear h
        go_enter Tryz.func46, Tryz.ntmps46
        go_wp2
        go_ret3
        exact ⟨rfl, Below.refl _ _⟩

/-- The bytes with one of them turned come back as a text, in whatever world has those cells. -/
theorem conv_back2 (w wx : World) {v : Int} {k : Nat} {C : Array Value} (hx : ∀ a, wx.cell? a = ((w.alloc (.cells C 5 (C.size, C.size + 1))).setCell ⟨w.heap.size, k, none⟩ (.int .u8 v)).cell? a) (s : ByteArray) (cap : Nat) (hk : k < s.size) (v0 : 0 ≤ v) (v1 : v < 256) (hcell : ∀ j (hj : j < s.size), C[j]? = some (.int .u8 (s[j].toNat : Int))) :
    (convert 82 9 (.slice (some ⟨w.heap.size, 0, none⟩) s.size cap)).run Tryz.prog wx = .ok (.string (str (s.data.toList.set k (byt v)))) wx := by
  have hlen : (s.data.toList.set k (byt v)).length = s.size := by rw [List.length_set, Array.length_toList]; rfl
  have h := run_convert_bytes_back (P := Tryz.prog) wx 82 9 5 ⟨w.heap.size, 0, none⟩ cap (s.data.toList.set k (byt v)) Tryz.underlying82 Tryz.underlying5 Tryz.underlying9 (by
    intro j hj
    have hj' : j < s.size := by rw [hlen] at hj; exact hj
    rw [hx, Addr.add_lit, Nat.zero_add, List.getElem_set]
    by_cases e : k = j
    · subst e
      rw [World.cell?_setCell_same _ _ _ (u := .int .u8 (s[k].toNat : Int)) (by rw [World.cell?_alloc_mark]; exact hcell k hk)]
      simp [byt_nat v v0 v1]
    · rw [World.cell?_setCell_other _ _ _ _ (fun x => e (congrArg Addr.off x)), World.cell?_alloc_mark, hcell j hj', if_neg e]
      rfl)
  rw [hlen] at h
  exact h

set_option maxHeartbeats 800000 in
theorem turn1_ok (k : Nat) (by_ : Int) (s : ByteArray) (l : Bool) (pp pb : Nat) (w : World) (hp : w.cell? ⟨pp, 0, none⟩ = some (.int .i64 k)) (hb : w.cell? ⟨pb, 0, none⟩ = some (.int .i64 by_)) (hpl : pp < w.heap.size) (hbl : pb < w.heap.size) (hs : s.size = 30) (hk : k < 30) (h0 : 0 ≤ by_) (h1 : by_ ≤ 255) :
    Calls Tryz.prog 46 #[.string s, .bool l, .pointer (some ⟨pp, 0, none⟩), .pointer (some ⟨pb, 0, none⟩)] w fun e w' => e = .returned (.tuple #[.string (str (upBy s.data.toList k by_)), .bool l, .int .i64 0]) ∧ Below w.heap.size w w' := by
  have hconv := run_bytes_of_string (P := Tryz.prog) w 9 82 5 s Tryz.underlying9 Tryz.underlying82 Tryz.underlying5
  generalize grownCap w s.size 0 5 = cap at hconv
  obtain ⟨C, hC, hsz, hcell⟩ := row_laid s cap
  rw [hC] at hconv
  clear hC
  have hks : k < s.size := by omega
  have hl : (w.alloc (.cells C 5 (C.size, C.size + 1))).cell? ⟨w.heap.size, k, none⟩ = some (.int .u8 (s[k].toNat : Int)) := by rw [World.cell?_alloc_mark]; exact hcell k hks
  have hf : (w.alloc (.cells C 5 (C.size, C.size + 1))).frozen? ⟨w.heap.size, k, none⟩ = false := by rw [World.frozen?_alloc_mark]; simp; omega
  have b1 : (s[k].toNat : Int) ≤ 255 := by have := s[k].toNat_lt; omega
  have b0 : 0 ≤ (s[k].toNat : Int) := by omega
  have hback := conv_back2 w ((w.alloc (.cells C 5 (C.size, C.size + 1))).setCell ⟨w.heap.size, k, none⟩ (.int .u8 (((s[k].toNat : Int) + by_) % 256))).drew.drew (fun _ => rfl) s cap hks (by omega) (by omega) hcell
  have hup : upBy s.data.toList k by_ = s.data.toList.set k (byt (((s[k].toNat : Int) + by_) % 256)) := by rw [upBy, bat_ba s k hks]
  have hb0 : Below w.heap.size w (w.alloc (.cells C 5 (C.size, C.size + 1))) := (Below.refl _ w).alloc (Nat.le_refl _) _
  have c1 : (w.alloc (.cells C 5 (C.size, C.size + 1))).cell? ⟨pp, 0, none⟩ = some (.int .i64 k) := (hb0.cell (p := ⟨pp, 0, none⟩) hpl).trans hp
  have c2 : (w.alloc (.cells C 5 (C.size, C.size + 1))).cell? ⟨pb, 0, none⟩ = some (.int .i64 by_) := (hb0.cell (p := ⟨pb, 0, none⟩) hbl).trans hb
  have u1 : IntKind.u8.wrap by_ = by_ := by rw [IntKind.wrap_u8]; omega
  have u2 : IntKind.u8.wrap ((s[k].toNat : Int) + by_) = ((s[k].toNat : Int) + by_) % 256 := IntKind.wrap_u8 _
  have e1 : ¬ (k : Int) < 0 := by omega
  have e2 : ¬ (30 : Int) ≤ k := by omega
  have e3 : (k : Int) < s.size := by omega
  have e4 : ¬ (255 : Int) < by_ := by omega
  have e5 : ¬ by_ < 0 := by omega
  rw [hup]
  have HB := hid hb0
  clear hcell hup hb0 hs hsz
  go_enter Tryz.func46, Tryz.ntmps46
  go_wp2_with fail
  go_region
  all_goals go_wp2
  all_goals go_ret3
  all_goals exact ⟨rfl, (HB.out.setCell (Nat.le_refl _) _).drew.drew⟩

theorem turn1_any (place by_ : Int) (s : ByteArray) (l : Bool) (pp pb : Nat) (w : World) (hp : w.cell? ⟨pp, 0, none⟩ = some (.int .i64 place)) (hb : w.cell? ⟨pb, 0, none⟩ = some (.int .i64 by_)) (hpl : pp < w.heap.size) (hbl : pb < w.heap.size) (hs : s.size = 30) :
    Calls Tryz.prog 46 #[.string s, .bool l, .pointer (some ⟨pp, 0, none⟩), .pointer (some ⟨pb, 0, none⟩)] w fun e w' => e = .returned (.tuple #[.string (turnE s l place by_).1, .bool (turnE s l place by_).2.1, .int .i64 (turnE s l place by_).2.2]) ∧ Below w.heap.size w w' := by
  unfold turnE
  by_cases h : 0 ≤ place ∧ place < 30 ∧ 0 ≤ by_ ∧ by_ ≤ 255
  · rw [if_pos h]
    obtain ⟨k, rfl⟩ : ∃ k : Nat, place = k := ⟨place.toNat, by omega⟩
    have hto : (k : Int).toNat = k := by omega
    rw [hto]
    exact turn1_ok k by_ s l pp pb w hp hb hpl hbl hs (by omega) h.2.2.1 h.2.2.2
  · rw [if_neg h]
    exact turn1_bad place by_ s l pp pb w hp hb h

theorem turnE_size (s : ByteArray) (l : Bool) (place by_ : Int) (hs : s.size = 30) : (turnE s l place by_).1.size ≤ 281474976710656 := by
  unfold turnE
  split
  · show (str _).size ≤ _
    rw [str_size, upBy, List.length_set, ba_len]; omega
  · show (str _).size ≤ _
    rw [str_size]; simp

set_option maxHeartbeats 400000 in
theorem turn_any (a : Option Addr) (n c : Nat) (a' : Option Addr) (m c' : Nat) (i place by_ : Int) (D : Dv) (w : World) (h : DevAt w a n a' m D) :
    Calls Tryz.prog 19 #[.agg #[.slice a n c, .slice a' m c'], .int .i64 i, .int .i64 place, .int .i64 by_] w (OutE w (dvTurn D i place by_)) := by
  obtain ⟨W, hW⟩ : ∃ W, W = (((w.alloc (.cells #[.slice a n c, .slice a' m c'] 58)).alloc (.cells #[.int .i64 place] 3)).alloc (.cells #[.int .i64 by_] 3)).alloc (.cells #[.slice none 0 0, .slice none 0 0] 58) := ⟨_, rfl⟩
  have hB : Below w.heap.size w W := by rw [hW]; go_grown
  have hz : W.heap.size = w.heap.size + 4 := by rw [hW]; simp
  have cn : W.cell? ⟨w.heap.size + 1, 0, none⟩ = some (.int .i64 place) := by rw [hW]; simp [go_sem]
  have cs : W.cell? ⟨w.heap.size + 1 + 1, 0, none⟩ = some (.int .i64 by_) := by rw [hW]; simp [go_sem]
  have rb : Box2 W (w.heap.size + 1 + 1 + 1) (.slice none 0 0) (.slice none 0 0) := by rw [hW]; exact ⟨by simp [go_sem], by simp [go_sem], by simp [go_sem], by simp [go_sem], by simp⟩
  have hC : Calls Tryz.prog 44 #[.agg #[.slice a n c, .slice a' m c'], .int .i64 i, .func (.func 46) #[] #[.pointer (some ⟨w.heap.size + 1, 0, none⟩), .pointer (some ⟨w.heap.size + 1 + 1, 0, none⟩)]] W (OutE W (dvTurn D i place by_)) := by
    by_cases ht : dvTouch D i = 0
    · obtain ⟨hm, h0, h1, _⟩ := touch_ok D i ht
      have hz30 := sec_size D i.toNat hm (by omega)
      exact change_any a n c a' m c' i 46 #[.pointer (some ⟨w.heap.size + 1, 0, none⟩), .pointer (some ⟨w.heap.size + 1 + 1, 0, none⟩)] D (turnE (sec D i.toNat) (los D i.toNat) place by_) W (h.below hB) (enters_of Tryz.func46 (by kernel_rfl) rfl) (turnE_size _ _ _ _ hz30)
        (fun _ w1 g1 => turn1_any place by_ _ _ (w.heap.size + 1) (w.heap.size + 1 + 1) w1 ((g1.cell (p := ⟨w.heap.size + 1, 0, none⟩) (by show w.heap.size + 1 < W.heap.size; omega)).trans cn) ((g1.cell (p := ⟨w.heap.size + 1 + 1, 0, none⟩) (by show w.heap.size + 1 + 1 < W.heap.size; omega)).trans cs) (by have := g1.size; omega) (by have := g1.size; omega) hz30)
    · have e : dvTurn D i place by_ = dvChange D i (str [], true, 0) := by rw [dvTurn, dvChange, dvChange, if_neg ht, if_neg ht]
      rw [e]
      exact change_any a n c a' m c' i 46 _ D (str [], true, 0) W (h.below hB) (enters_of Tryz.func46 (by kernel_rfl) rfl) (by rw [str_size]; simp) (fun hh _ _ => absurd hh ht)
  generalize dvTurn D i place by_ = r at hC
  have HE := hid hW
  rw [hW] at hC
  have HC := hid hC
  have HP := hid (And.intro hB (And.intro hz rb))
  clear hC hW hB hz cn cs rb h
  go_enter Tryz.func19, Tryz.ntmps19
  go_wp2_with fail
  refine HC.out.mono ?_
  rintro _ w1 ⟨b, n1, c1, b', m1, c2, rfl, hD, hF, g1⟩
  rw [← HE.out] at hF g1
  have rb1 := HP.out.2.2.below g1
  have v0 := rb1.c0
  have v1 := rb1.c1
  have x0 := rb1.f0
  have x1 := rb1.f1
  obtain ⟨y0, y1⟩ := ret_box (.slice b n1 c1) (.slice b' m1 c2) v0 v1
  have K := hid (out_store (p := w.heap.size + 1 + 1 + 1) (c := c1) (c' := c2) hD hF (HP.out.1.trans (g1.mono HP.out.1.size)) (by omega) (by rw [HP.out.2.1]; omega) HP.out.1.size)
  clear hD hF g1 rb1
  go_wp2
  refine bodyPost_ret (v := .tuple #[.agg #[.slice b n1 c1, .slice b' m1 c2], .int .i64 r.2]) (by simp [results, Tryz.results19, go_sem, y0, y1]) rfl ?_
  exact ⟨_, _, _, _, _, _, rfl, K.out.1, K.out.2.1, K.out.2.2⟩
end Go.Proofs.YtpnmidkocmokeaaGreatDoor
