/- What the program's closure in Pack does: bytes as they are are written behind those that are there. -/
import Derived.Test.YtlndioefemdpjaaBytes
import Derived.Test.YtlndioefemdpjaaPressPlain
namespace Go.Proofs.Ytlndioefemdpjaa
open Go.RowKit Go.Lib

/-- The three variables that the closure shares: the text in block B, the bytes that were written in block B + 1, how far in block B + 2. -/
structure PInv (B : Nat) (s : ByteArray) (v : Value) (O : List UInt8) (F : Nat) (w : World) : Prop where
  txt : w.heap[B]? = some (.cells #[.string s] 9 (0, 0))
  out : w.heap[B + 1]? = some (.cells #[v] 24 (0, 0))
  far : w.heap[B + 2]? = some (.cells #[.int .i64 F] 3 (0, 0))
  own : ownsB w (B + 3) v O

section
variable {B F : Nat} {s : ByteArray} {v v' : Value} {O O' : List UInt8} {w w0 w1 : World}
theorem PInv.size (h : PInv B s v O F w) : B + 3 ≤ w.heap.size := by have := lt_of_block h.far; omega
theorem PInv.drew (h : PInv B s v O F w) : PInv B s v O F w.drew := ⟨h.txt, h.out, h.far, h.own⟩
theorem PInv.drewN (h : PInv B s v O F w) (n : Nat) : PInv B s v O F (w.drewN n) := ⟨h.txt, h.out, h.far, h.own⟩
theorem PInv.alloc (h : PInv B s v O F w) (o : Obj) : PInv B s v O F (w.alloc o) := by
  have := h.size
  exact ⟨(Below.heap_alloc _ _ _ (by omega)).trans h.txt, (Below.heap_alloc _ _ _ (by omega)).trans h.out, (Below.heap_alloc _ _ _ (by omega)).trans h.far, World.ownsRow.alloc h.own o⟩
theorem ownBlock_ge (h : PInv B s v O F w) : ∀ k, v.ownBlock = some k → B + 3 ≤ k := fun k hk => (World.ownsRow.lt h.own k hk).1
/-- Behind an append and the store of what it answers. -/
theorem PInv.store (h : PInv B s v O F w) (hg : w.grownBy w1 v.ownBlock) (hown : ownsB w1 (B + 3) v' O') : PInv B s v' O' F (w1.setCell ⟨B + 1, 0, none⟩ v') := by
  have hs := h.size
  have hb : ∀ k, k < B + 3 → w1.heap[k]? = w.heap[k]? := fun k hk => hg.block k (by omega) (fun e => by have := ownBlock_ge h k e.symm; omega)
  refine ⟨?_, one_setCell ((hb _ (by omega)).trans h.out), ?_, ownsRow_setCell_below hown (by show B + 1 < B + 3; omega) _⟩
  · exact (Below.heap_setCell _ _ _ _ (by show B ≠ B + 1; omega)).trans ((hb _ (by omega)).trans h.txt)
  · exact (Below.heap_setCell _ _ _ _ (by show B + 2 ≠ B + 1; omega)).trans ((hb _ (by omega)).trans h.far)
theorem PInv.later (h : PInv B s v O F w) (hg : w.grownBy w1 v.ownBlock) : w1.cell? ⟨B + 1, 0, none⟩ = some v ∧ w1.frozen? ⟨B + 1, 0, none⟩ = false := by
  have hb : w1.heap[B + 1]? = w.heap[B + 1]? := hg.block _ (by have := h.size; omega) (fun e => by have := ownBlock_ge h _ e.symm; omega)
  exact ⟨cell_of_one (hb.trans h.out), free_of_one (hb.trans h.out)⟩
theorem PInv.later2 (h : PInv B s v O F w) (hg : w.grownBy w1 v.ownBlock) : w1.cell? ⟨B + 1 + 1, 0, none⟩ = some (.int .i64 F) ∧ w1.frozen? ⟨B + 1 + 1, 0, none⟩ = false := by
  have hb : w1.heap[B + 2]? = w.heap[B + 2]? := hg.block _ (by have := h.size; omega) (fun e => by have := ownBlock_ge h _ e.symm; omega)
  exact ⟨cell_of_one (hb.trans h.far), free_of_one (hb.trans h.far)⟩
theorem PInv.below (h : PInv B s v O F w) (hb : Below B w0 w) (hg : w.grownBy w1 v.ownBlock) : Below B w0 (w1.setCell ⟨B + 1, 0, none⟩ v') :=
  (hb.grown hg (by have := h.size; omega) (fun k hk => by have := ownBlock_ge h k hk; omega)).setCell (by show B ≤ B + 1; omega) _
theorem PInv.go (h : PInv B s v O F w) (F' : Nat) : PInv B s v O F' (w.setCell ⟨B + 2, 0, none⟩ (.int .i64 F')) := by
  refine ⟨?_, ?_, one_setCell h.far, ownsRow_setCell_below h.own (by show B + 2 < B + 3; omega) _⟩
  · exact (Below.heap_setCell _ _ _ _ (by show B ≠ B + 2; omega)).trans h.txt
  · exact (Below.heap_setCell _ _ _ _ (by show B + 1 ≠ B + 2; omega)).trans h.out
end

theorem cut_cut (l : List UInt8) (F E n : Nat) (hE : E ≤ l.length) (hF : F ≤ E) (hn : n = min (E - F) 128) : (cut l F E).take 128 = cut l F (F + n) ∧ (cut l F E).drop 128 = cut l (F + n) E := by
  constructor
  · rw [cut, cut, List.take_drop, List.take_take]
    by_cases h : E - F ≤ 128
    · rw [show F + n = E by omega, Nat.min_eq_right (by omega)]
    · rw [show F + n = F + 128 by omega, Nat.min_eq_left (by omega)]
  · rw [cut, cut, List.drop_drop]
    by_cases h : E - F ≤ 128
    · rw [show F + n = E by omega, List.drop_eq_nil_of_le (by simp; omega), List.drop_eq_nil_of_le (by simp; omega)]
    · rw [show F + n = F + 128 by omega]
/-- One round of the closure. -/
theorem plainly_cut (l : List UInt8) (F E n : Nat) (hE : E ≤ l.length) (hF : F < E) (hn : n = min (E - F) 128) : plainly (cut l F E) = byt ((n : Int) - 1) :: (cut l F (F + n) ++ plainly (cut l (F + n) E)) := by
  obtain ⟨h1, h2⟩ := cut_cut l F E n hE (by omega) hn
  rw [plainly_eq, cut_length _ _ _ hE, if_neg (by omega), h1, h2, hn]
theorem step_cut {l O : List UInt8} {F E n : Nat} {T : List UInt8} (h : O ++ plainly (cut l F E) = T) (hE : E ≤ l.length) (hF : F < E) (hn : n = min (E - F) 128) :
    O ++ [byt ((n : Int) - 1)] ++ cut l F (F + n) ++ plainly (cut l (F + n) E) = T := by rw [← h, plainly_cut l F E n hE hF hn]; simp

set_option maxHeartbeats 1600000 in
set_option maxRecDepth 4000 in
theorem closure_any (B : Nat) (s : ByteArray) (v : Value) (O : List UInt8) (F E : Nat) (w : World) (hs : s.size ≤ 600) (hP : PInv B s v O F w) (hF : F ≤ E) (hE : E ≤ s.size) (hO : O.length ≤ 2000) :
    Calls Try.prog 18 #[.int .i64 E, .pointer (some ⟨B + 2, 0, none⟩), .pointer (some ⟨B + 1, 0, none⟩), .pointer (some ⟨B, 0, none⟩)] w fun e w' => e = .returned (.tuple #[]) ∧ Below B w w' ∧ ∃ v', PInv B s v' (O ++ plainly (cut s.data.toList F E)) E w' := by
  obtain ⟨T, hT⟩ : ∃ T, O ++ plainly (cut s.data.toList F E) = T := ⟨_, rfl⟩
  have hTl : T.length ≤ 4000 := by
    rw [← hT, List.length_append, plainly_length, cut_length _ _ _ (by rw [ba_len]; exact hE)]; omega
  rw [hT]
  have HT := hid hT
  clear hT
  go_enter Try.func18, Try.ntmps18
  go_wp2_with fail
  go_loopg [5] (E - F) (fun g n wr => ∃ (v1 : Value) (O1 : List UInt8) (F1 : Nat), g = E - F1 ∧ F1 ≤ E ∧ PInv B s v1 O1 F1 wr ∧ Below B w wr ∧ Hid (O1 ++ plainly (cut s.data.toList F1 E) = T))
  case atStart => exact ⟨v, O, F, rfl, hF, hP, Below.refl _ _, HT⟩
  case round =>
    obtain ⟨v1, O1, F1, rfl, hF1, hP1, hB1, HR⟩ := hrel
    clear hP HT hF hO
    have cT := cell_of_one hP1.txt
    have cO := cell_of_one hP1.out
    have cF := cell_of_one hP1.far
    have fO := free_of_one hP1.out
    have fF := free_of_one hP1.far
    by_cases hlt : F1 < E
    · have hO1 : O1.length ≤ 4000 := by have := app_len HR.out; omega
      obtain ⟨n, hn⟩ : ∃ n, n = min (E - F1) 128 := ⟨_, rfl⟩
      have R := hid (step_cut HR.out (by rw [ba_len]; exact hE) hlt hn)
      have mn : (if (128 : Int) < E - F1 then 128 else (E : Int) - F1) = n := by split <;> omega
      have n1 : 1 ≤ n := by omega
      have n2 : n ≤ 128 := by omega
      have n3 : F1 + n ≤ E := by omega
      have n4 : n ≤ E - F1 := by omega
      clear hn HR
      have hlt' : (F1 : Int) < E := by omega
      have u2 : IntKind.u8.wrap ((n : Int) - 1) = n - 1 := by rw [IntKind.wrap_u8]; omega
      have hP2 := hP1.alloc (.cells #[.int .u8 ((n : Int) - 1)] 5)
      have hB2 := hB1.alloc (by have := hP1.size; omega) (.cells #[.int .u8 ((n : Int) - 1)] 5)
      have hnew := new_one wr ((n : Int) - 1) (by omega) (by omega) 5
      have HH := hid (And.intro hP2 (And.intro hB2 hnew))
      have HP := hid hP1
      clear hP2 hB2 hnew hP1
      go_wp2_with (at_builtin; (refine wpList_appendB _ rfl (.tmp 13) (.tmp 17) rfl (B + 3) v1 O1 rfl HH.out.1.own ⟨wr.heap.size, 0, none⟩ 1 [byt ((n : Int) - 1)] rfl HH.out.2.2 (by simp) (by simp; omega) HH.out.1.size ?_; intro g2 m2 cap2 w2 hm2 hg2 hown2 hgrow2; obtain ⟨cO2, fO2⟩ := HH.out.1.later hgrow2; have H2 := hid (And.intro hown2 hgrow2); clear hown2 hgrow2))
      have hP3 := HH.out.1.store H2.out.2 H2.out.1
      have hB3 := HH.out.1.below (v' := .slice (some ⟨g2, 0, none⟩) m2 cap2) HH.out.2.1 H2.out.2
      generalize w2.setCell ⟨B + 1, 0, none⟩ (.slice (some ⟨g2, 0, none⟩) m2 cap2) = X at hP3 hB3
      clear HH H2 hB1 cT cO cF fO fF cO2 fO2 mn u2
      have cT := cell_of_one hP3.txt
      have cO := cell_of_one hP3.out
      have cF := cell_of_one hP3.far
      have fO := free_of_one hP3.out
      have fF := free_of_one hP3.far
      have w1 : IntKind.i64.wrap ((F1 : Int) + n) = ((F1 + n : Nat) : Int) := by rw [IntWalk.i64_in _ (by omega)]; omega
      obtain ⟨G, hG⟩ : ∃ G, F1 + n = G := ⟨_, rfl⟩
      rw [hG] at w1
      have g1 : (F1 : Int) ≤ G := by omega
      have g3 : (G : Int) ≤ s.size := by omega
      have hsz : (s.extract F1 G).size = n := by rw [ext_size _ _ _ (by omega)]; omega
      have HP3 := hid hP3
      have HS := hid hsz
      have HG := hid hG
      clear hP3 hsz hG
      go_region_law (refine step_appendS rfl (.tmp 19) (.tmp 25) rfl (B + 3) (.slice (some ⟨g2, 0, none⟩) m2 cap2) (O1 ++ [byt ((n : Int) - 1)]) rfl HP3.out.drew.own (s.extract F1 G) rfl (by rw [HS.out]; omega) (by rw [HS.out]; simp; omega) HP3.out.drew.size ?_; intro g4 m4 cap4 w4 hm4 hg4 hown4 hgrow4; obtain ⟨cO4, fO4⟩ := HP3.out.drew.later hgrow4)
      all_goals
        have hP5 := HP3.out.drew.store hgrow4 hown4
        have hB5 := HP3.out.drew.below (v' := .slice (some ⟨g4, 0, none⟩) m4 cap4) hB3.drew hgrow4
        rw [ext_list] at hP5
        generalize w4.setCell ⟨B + 1, 0, none⟩ (.slice (some ⟨g4, 0, none⟩) m4 cap4) = Y at hP5 hB5
        have R' := R
        rw [HG.out] at R'
        clear hown4 hgrow4 cO4 fO4 HP3 hB3 cT cO cF fO fF R w1
        have cF := cell_of_one hP5.far
        have fF := free_of_one hP5.far
        have w1 : (F1 : Int) + n = G := by have := HG.out; omega
        go_wp2
        go_roundg (E - G)
        case measure => have := HG.out; omega
        case rel => exact ⟨_, _, G, rfl, by have := HG.out; omega, hP5.go G, hB5.setCell (by show B ≤ B + 2; omega) _, R'⟩
    · obtain rfl : F1 = E := by omega
      have ht := HR.out
      rw [cut_self, plainly_nil, List.append_nil] at ht
      subst ht
      have hge : ¬ (F1 : Int) < F1 := by omega
      go_wp2
      go_end0
      exact ⟨rfl, hB1, v1, hP1⟩
end Go.Proofs.Ytlndioefemdpjaa
