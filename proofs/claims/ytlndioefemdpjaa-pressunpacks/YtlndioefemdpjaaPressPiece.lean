/- What the program's appendPiece does: a piece laid behind the bytes that are there. -/
import Derived.Test.YtlndioefemdpjaaBytes
import Derived.Test.YtlndioefemdpjaaPressPlain
import Derived.Test.YtlndioefemdpjaaPressUnMath
namespace Go.Proofs.Ytlndioefemdpjaa
open Go.RowKit Go.Lib

theorem own_cell {w : World} {base g m cap : Nat} {O : List UInt8} (h : ownsB w base (.slice (some ⟨g, 0, none⟩) m cap) O) (j : Nat) (hj : j < O.length) : w.cell? ⟨g, j, none⟩ = some (.int .u8 (bat O j).toNat) := by
  have := World.ownsRow.cells h (g := g) rfl j (.int .u8 (bat O j).toNat) (by simp [bytesV, bat_lt _ _ hj, hj])
  rw [Addr.add_lit, Nat.zero_add] at this
  exact this
theorem own_len {w : World} {base g m cap : Nat} {O : List UInt8} (h : ownsB w base (.slice (some ⟨g, 0, none⟩) m cap) O) : m = O.length ∧ O.length ≤ cap ∧ base ≤ g := by
  rcases h.2 with ⟨h0, _⟩ | ⟨g', cap', cur, h0, hb, _, hc, _⟩
  · cases h0
  · cases h0; exact ⟨rfl, hc, hb⟩
theorem below_own {w w0 w1 : World} {base B : Nat} {v : Value} {O : List UInt8} (hown : ownsB w base v O) (hB : B ≤ base) (hs : B ≤ w.heap.size) (hb : Below B w0 w) (hg : w.grownBy w1 v.ownBlock) : Below B w0 w1 :=
  hb.grown hg hs (fun k hk => by have := (World.ownsRow.lt hown k hk).1; omega)
theorem ownsB_alloc {w : World} {base : Nat} {v : Value} {O : List UInt8} (h : ownsB w base v O) (o : Obj) : ownsB (w.alloc o) base v O := World.ownsRow.alloc h o
theorem byt_nat8 (c : UInt8) : byt (c.toNat : Int) = c := byt_of c
theorem new_byte (w : World) (c : UInt8) (t : TypeId) : ∀ j u, (bytesV [c])[j]? = some u → (w.alloc (.cells #[.int .u8 (c.toNat : Int)] t)).cell? ((⟨w.heap.size, 0, none⟩ : Addr).add j) = some u := by
  have := new_one w (c.toNat : Int) (by omega) (by have := c.toNat_lt; omega) t
  rw [byt_of] at this
  exact this

set_option maxHeartbeats 1600000 in
set_option maxRecDepth 4000 in
theorem piece_any (base g m cap : Nat) (O : List UInt8) (d n : Nat) (w : World) (hown : ownsB w base (.slice (some ⟨g, 0, none⟩) m cap) O) (hbase : base ≤ w.heap.size) (hd : 1 ≤ d) (hdO : d ≤ O.length) (hO : O.length ≤ 600) (hn : n ≤ 600) :
    Calls Try.prog 31 #[.slice (some ⟨g, 0, none⟩) m cap, .int .i64 d, .int .i64 n] w fun e w' => ∃ g' m' cap', e = .returned (.slice (some ⟨g', 0, none⟩) m' cap') ∧ ownsB w' base (.slice (some ⟨g', 0, none⟩) m' cap') (piece O d n) ∧ Below base w w' := by
  go_enter Try.func31, Try.ntmps31
  go_wp2_with fail
  go_loopw [0, 8] (fun v i wr => ∃ (g1 m1 cap1 k : Nat), v = .slice (some ⟨g1, 0, none⟩) m1 cap1 ∧ i = .int .i64 k ∧ k ≤ n ∧ Hid (ownsB wr base (.slice (some ⟨g1, 0, none⟩) m1 cap1) (piece O d k)) ∧ Below base w wr) (fun _ i _ => n - (intOf i).toNat)
  case atStart => exact ⟨g, m, cap, 0, rfl, rfl, Nat.zero_le _, hown, Below.refl _ _⟩
  case round =>
    obtain ⟨g1, m1, cap1, k, rfl, rfl, hk, HO, hB⟩ := hrel
    clear hown
    by_cases hlt : k < n
    · obtain ⟨hm1, hcap1, hg1⟩ := own_len HO.out
      have hl := piece_length O d k
      obtain ⟨J, hJ⟩ : ∃ J : Nat, m1 - d = J := ⟨_, rfl⟩
      have hc := own_cell HO.out J (by omega)
      have hpc : piece O d (k + 1) = piece O d k ++ [bat (piece O d k) J] := by rw [piece, ← hJ, hm1]
      have HPC := hid hpc
      generalize piece O d k = P at HO hc hl hm1 HPC hcap1
      generalize bat P J = c at hc HPC
      have j1 : (m1 : Int) - d = J := by omega
      have j2 : J < m1 := by omega
      have hc' : (c.toNat : Int) < 256 := by have := c.toNat_lt; omega
      have j3 : m1 ≤ 1200 := by omega
      have hlt' : (k : Int) < n := by omega
      have hs := hB.size
      have HH := hid (And.intro (ownsB_alloc HO.out (.cells #[.int .u8 (c.toNat : Int)] 5)) (And.intro (hB.alloc (by omega) (.cells #[.int .u8 (c.toNat : Int)] 5)) (new_byte wr c 5)))
      have hPl : P.length ≤ 1200 := by omega
      clear HO hB hJ hm1 hl hcap1 hg1 hpc
      go_wp2_with (at_builtin; (refine wpList_appendB _ rfl (.tmp 10) (.tmp 18) rfl base _ P rfl HH.out.1 ⟨wr.heap.size, 0, none⟩ 1 [c] rfl HH.out.2.2 (by simp) (by simp; omega) (by simp; omega) ?_; intro g5 m5 cap5 w5 hm5 hg5 hown5 hgrow5; have H5 := hid (And.intro hown5 hgrow5); clear hown5 hgrow5))
      go_roundw
      case rel =>
        refine ⟨g5, m5, cap5, k + 1, rfl, by go_num, by omega, ?_, below_own HH.out.1 (Nat.le_refl _) (by simp; omega) HH.out.2.1 H5.out.2⟩
        show ownsB _ _ _ _
        rw [HPC.out]; exact H5.out.1
      case measure => simp [intOf]; omega
    · obtain rfl : k = n := by omega
      clear hk hlt
      have hlt' : ¬ (k : Int) < k := by omega
      go_wp2
      go_ret
      exact ⟨g1, m1, cap1, rfl, HO.out, hB⟩
end Go.Proofs.Ytlndioefemdpjaa
