/- What the document's own unpacking answers. -/
import Derived.Test.YtlndioefemdpjaaPressUnpack
namespace Go.Proofs.Ytlndioefemdpjaa
open Go.RowKit Go.Lib

set_option maxHeartbeats 1600000 in
set_option maxRecDepth 20000 in
theorem unpackedof_any (s : ByteArray) (w : World) (hs : s.size ≤ 140737488355328) :
    Calls Try.prog 15 #[.string s] w fun e w' => e = .returned (.tuple #[.string (str (unp [] s.data.toList).1), .int .i64 (unp [] s.data.toList).2]) ∧ Below w.heap.size w w' := by
  obtain ⟨U, hU⟩ : ∃ U, unp [] s.data.toList = U := ⟨_, rfl⟩
  rw [hU]
  have HU : Hid (unpAt [] s.data.toList 0 = U) := hU
  clear hU
  go_enter Try.func15, Try.ntmps15
  go_wp2_with fail
  go_loopw [4, 5] (fun v i wr => ∃ (ao : Option Addr) (m cap I : Nat) (O : List UInt8), v = .slice ao m cap ∧ i = .int .i64 I ∧ I ≤ s.size ∧ Hid (m = O.length) ∧ Hid (O.length ≤ 600) ∧ Hid (ownsB wr w.heap.size (.slice ao m cap) O) ∧ Below w.heap.size w wr ∧ Hid (unpAt O s.data.toList I = U)) (fun _ i _ => s.size - (intOf i).toNat)
  case atStart => exact ⟨none, 0, 0, 0, [], rfl, rfl, Nat.zero_le _, rfl, by show _ ≤ _; simp, World.ownsRow_nil _ _ _ _, Below.refl _ _, HU⟩
  case round =>
    obtain ⟨ao, m, cap, I, O, rfl, rfl, hI, HM, HO, HW, hB, HR⟩ := hrel
    clear HU
    by_cases hlt : I < s.size
    · have hlt' : (I : Int) < s.size := by omega
      have hb0 := bat_ba s I hlt
      obtain ⟨c, hc⟩ : ∃ c, s[I] = c := ⟨_, rfl⟩
      rw [hc] at hb0
      have HB := hid hb0
      clear hb0
      have HL := hid (ba_len s)
      have hcb : (c.toNat : Int) ≤ 255 := by have := c.toNat_lt; omega
      have hbs := hB.size
      by_cases hc1 : c.toNat < 128
      · have hc1' : (c.toNat : Int) < 128 := by omega
        by_cases hsh : s.size < I + 2 + c.toNat
        · have h1 : (s.size : Int) < I + 2 + c.toNat := by omega
          have R : Hid (U = ([], 5)) := by
            show _ = _
            rw [← HR.out, unpAt_short O _ I (by rw [HL.out]; exact hlt) (by rw [HB.out]; exact hc1) (by rw [HL.out, HB.out]; exact hsh)]
          clear HR HB hsh hc1
          go_wp2
          go_ret2
          exact ⟨ret_ss (by rw [R.out]; rfl) (by rw [R.out]), hB⟩
        · obtain ⟨J, hJ⟩ : ∃ J, I + 2 + c.toNat = J := ⟨_, rfl⟩
          obtain ⟨K, hK⟩ : ∃ K, I + 1 = K := ⟨_, rfl⟩
          have hps : (s.extract K J).size = c.toNat + 1 := by rw [ext_size _ _ _ (by omega)]; omega
          have j1 : (I : Int) + 2 + c.toNat = J := by omega
          have j2 : (J : Int) ≤ s.size := by omega
          have j5 : (I : Int) + 1 = K := by omega
          have j4 : (K : Int) ≤ J := by omega
          have HP := hid hps
          have HJ := hid (And.intro hJ hK)
          by_cases h6 : O.length + (c.toNat + 1) ≤ 600
          · have R : Hid (unpAt (O ++ (s.extract K J).data.toList) s.data.toList J = U) := by
              show _ = _
              have := unpAt_plain O s.data.toList I (by rw [HL.out]; exact hlt) (by rw [HB.out]; exact hc1) (by rw [HL.out, HB.out]; omega) (by rw [HB.out]; exact h6)
              rw [HB.out] at this
              rw [← HR.out, this, hJ, ext_list, hK]
            clear hps hsh hc1 hJ hK HR HB
            go_wp2_with (at_builtin; (refine wpList_appendS _ rfl (.tmp 26) (.tmp 34) rfl w.heap.size _ O rfl HW.out (s.extract K J) rfl (by have := HP.out; omega) (by have := HP.out; omega) hbs ?_; intro g5 m5 cap5 w5 hm5 hg5 hown5 hgrow5; have hm6 : m5 ≤ 600 := (by have := hm5.out; rw [List.length_append, ba_len] at this; have := HP.out; omega); have H5 := hid (And.intro hown5 (below_own HW.out (Nat.le_refl _) hbs hB hgrow5)); clear hown5 hgrow5))
            go_roundw
            case rel => exact ⟨some ⟨g5, 0, none⟩, m5, cap5, J, _, rfl, rfl, by omega, hm5, by show _ ≤ _; rw [← hm5.out]; exact hm6, H5.out.1, H5.out.2, R⟩
            case measure => have := HJ.out; simp [intOf]; omega
          · have R : Hid (U = ([], 1)) := by
              show _ = _
              rw [← HR.out, unpAt_size O s.data.toList I (by rw [HL.out]; exact hlt) (by rw [HB.out]; exact hc1) (by rw [HL.out, HB.out]; omega) (by rw [HB.out]; omega)]
            have H6 := hid h6
            have HC1 := hid hc1
            clear hps hsh hc1 hJ hK HR HB h6
            go_wp2_with (at_builtin; (refine wpList_appendS _ rfl (.tmp 26) (.tmp 34) rfl w.heap.size _ O rfl HW.out (s.extract K J) rfl (by have := HP.out; omega) (by have := HP.out; have := HO.out; have := HC1.out; omega) hbs ?_; intro g5 m5 cap5 w5 hm5 hg5 hown5 hgrow5; have hm6 : 600 < m5 := (by have := hm5.out; rw [List.length_append, ba_len] at this; have := HP.out; have := H6.out; omega); have H5 := hid (And.intro hown5 (below_own HW.out (Nat.le_refl _) hbs hB hgrow5)); clear hown5 hgrow5))
            go_ret2
            exact ⟨ret_ss (by rw [R.out]; rfl) (by rw [R.out]), H5.out.2⟩
      · have hc1' : ¬ (c.toNat : Int) < 128 := by omega
        by_cases hsh : s.size < I + 2
        · have h1 : (s.size : Int) < I + 2 := by omega
          have R : Hid (U = ([], 5)) := by
            show _ = _
            rw [← HR.out, unpAt_short2 O _ I (by rw [HL.out]; exact hlt) (by rw [HB.out]; omega) (by rw [HL.out]; exact hsh)]
          clear HR HB hsh hc1
          go_wp2
          go_ret2
          exact ⟨ret_ss (by rw [R.out]; rfl) (by rw [R.out]), hB⟩
        · obtain ⟨J, hJ⟩ : ∃ J, I + 2 = J := ⟨_, rfl⟩
          obtain ⟨K, hK⟩ : ∃ K, I + 1 = K := ⟨_, rfl⟩
          have zK : K < s.size := by omega
          obtain ⟨d, hd⟩ : ∃ d, s[K] = d := ⟨_, rfl⟩
          have hb1 := bat_ba s K zK
          rw [hd, ← hK] at hb1
          have HD := hid hb1
          have j1 : (I : Int) + 2 = J := by omega
          have j2 : ¬ (s.size : Int) < J := by omega
          have j5 : (I : Int) + 1 = K := by omega
          have hd2 : (d.toNat : Int) ≤ 255 := by have := d.toNat_lt; omega
          by_cases hf : d.toNat = 0 ∨ O.length < d.toNat
          · have R : Hid (U = ([], 4)) := by
              show _ = _
              rw [← HR.out, unpAt_form O s.data.toList I (by rw [HB.out]; omega) (by rw [HL.out]; omega) (by rw [HD.out]; exact hf)]
            by_cases h0 : d.toNat = 0
            · have h0' : ((d.toNat : Int) == 0) = true := beq_iff_eq.2 (by omega)
              clear hsh hc1 hJ hK HR HB hf hb1 HD h0
              go_wp2
              go_ret2
              exact ⟨ret_ss (by rw [R.out]; rfl) (by rw [R.out]), hB⟩
            · have h0' : ((d.toNat : Int) == 0) = false := beq_eq_false_iff_ne.2 (by omega)
              have h1 : (m : Int) < d.toNat := by have := HM.out; omega
              clear hsh hc1 hJ hK HR HB hf hb1 HD h0
              go_wp2
              go_ret2
              exact ⟨ret_ss (by rw [R.out]; rfl) (by rw [R.out]), hB⟩
          · have h0' : ((d.toNat : Int) == 0) = false := beq_eq_false_iff_ne.2 (by omega)
            have h1 : ¬ (m : Int) < d.toNat := by have := HM.out; omega
            obtain ⟨N, hN⟩ : ∃ N, c.toNat - 124 = N := ⟨_, rfl⟩
            have n1 : (c.toNat : Int) - 124 = N := by omega
            have n2 : N ≤ 131 := by omega
            obtain ⟨g, cap0, hv, _⟩ := owns_form HW.out (by omega)
            obtain ⟨rfl, -, rfl⟩ : ao = some ⟨g, 0, none⟩ ∧ m = O.length ∧ cap = cap0 := by simpa using hv
            have R0 : Hid ((O.length + N ≤ 600 → unpAt (piece O d.toNat N) s.data.toList J = U) ∧ (600 < O.length + N → U = ([], 1))) := by
              refine ⟨fun h6 => ?_, fun h6 => ?_⟩
              · have := unpAt_piece O s.data.toList I (by rw [HB.out]; omega) (by rw [HL.out]; omega) (by rw [HD.out]; exact hf) (by rw [HB.out, hN]; exact h6)
                rw [HB.out, HD.out, hN] at this
                rw [← HR.out, this, hJ]
              · rw [← HR.out, unpAt_size2 O s.data.toList I (by rw [HB.out]; omega) (by rw [HL.out]; omega) (by rw [HD.out]; exact hf) (by rw [HB.out, hN]; exact h6)]
            have HF := hid hf
            have HJ := hid hJ
            clear hv hsh hc1 hJ hK HR HB hf hb1 HD
            go_wp2_with fail
            go_loopw [4, 8] (fun v i wx => ∃ (g1 m1 cap1 k : Nat), v = .slice (some ⟨g1, 0, none⟩) m1 cap1 ∧ i = .int .i64 k ∧ k ≤ N ∧ Hid (ownsB wx w.heap.size (.slice (some ⟨g1, 0, none⟩) m1 cap1) (piece O d.toNat k)) ∧ Below w.heap.size w wx) (fun _ i _ => N - (intOf i).toNat)
            case atStart => exact ⟨g, m, cap, 0, rfl, rfl, Nat.zero_le _, HW, hB⟩
            case round =>
              obtain ⟨g1, m1, cap1, k, rfl, rfl, hk, HQ, hB1⟩ := hrel
              have hl := piece_length O d.toNat k
              obtain ⟨hm1, hcap1, hg1⟩ := own_len HQ.out
              have ho := HO.out
              have hbs1 := hB1.size
              by_cases hlt : k < N
              · obtain ⟨J1, hJ1⟩ : ∃ J1 : Nat, m1 - d.toNat = J1 := ⟨_, rfl⟩
                have hdO := HF.out
                have hcl := own_cell HQ.out J1 (by omega)
                have hpc : piece O d.toNat (k + 1) = piece O d.toNat k ++ [bat (piece O d.toNat k) J1] := by rw [piece, ← hJ1, hm1]
                have HPC := hid hpc
                generalize piece O d.toNat k = P at HQ hcl hl hm1 HPC hcap1
                generalize bat P J1 = x at hcl HPC
                have q1 : (m1 : Int) - d.toNat = J1 := by omega
                have q2 : J1 < m1 := by omega
                have q3 : m1 ≤ 1200 := by omega
                have hlt' : (k : Int) < N := by omega
                have HH := hid (And.intro (ownsB_alloc HQ.out (.cells #[.int .u8 (x.toNat : Int)] 5)) (And.intro (hB1.alloc (by omega) (.cells #[.int .u8 (x.toNat : Int)] 5)) (new_byte wr x 5)))
                have hPl : P.length ≤ 1200 := by omega
                clear HQ hB1 hJ1 hm1 hl hcap1 hg1 hpc hdO ho
                go_wp2_with (at_builtin; (refine wpList_appendB _ rfl (.tmp 64) (.tmp 72) rfl w.heap.size _ P rfl HH.out.1 ⟨wr.heap.size, 0, none⟩ 1 [x] rfl HH.out.2.2 (by simp) (by simp; omega) (by simp; omega) ?_; intro g5 m5 cap5 w5 hm5 hg5 hown5 hgrow5; have H5 := hid (And.intro hown5 hgrow5); clear hown5 hgrow5))
                go_roundw
                case rel =>
                  refine ⟨g5, m5, cap5, k + 1, rfl, by go_num, by omega, ?_, below_own HH.out.1 (Nat.le_refl _) (by simp; omega) HH.out.2.1 H5.out.2⟩
                  show ownsB _ _ _ _
                  rw [HPC.out]; exact H5.out.1
                case measure => simp [intOf]; omega
              · obtain rfl : k = N := by omega
                have hge : ¬ (k : Int) < k := by omega
                have HM1 := hid hm1
                have HLL := hid hl
                clear hk hlt hm1 hl
                by_cases h6 : O.length + k ≤ 600
                · have hm6 : ¬ 600 < m1 := by have := HM1.out; have := HLL.out; omega
                  have R := hid (R0.out.1 h6)
                  have H6 := hid h6
                  clear R0 h6 ho
                  go_wp2
                  go_roundw
                  case rel => exact ⟨some ⟨g1, 0, none⟩, m1, cap1, J, _, rfl, rfl, by omega, HM1, by show _ ≤ _; rw [HLL.out]; exact H6.out, HQ, hB1, R⟩
                  case measure => have := HJ.out; simp [intOf]; omega
                · have hm6 : 600 < m1 := by have := HM1.out; have := HLL.out; omega
                  have R := hid (R0.out.2 (by omega))
                  clear R0 h6 ho
                  go_wp2
                  go_ret2
                  exact ⟨ret_ss (by rw [R.out]; rfl) (by rw [R.out]), hB1⟩
    · have R : Hid (U = (O, 0)) := by
        show _ = _
        rw [← HR.out, unpAt_end O _ I (by rw [ba_len]; omega)]
      have hge : ¬ (I : Int) < s.size := by omega
      have hcv := conv_own HW.out
      clear HR hlt
      go_wp2
      go_ret2
      exact ⟨ret_ss (by rw [R.out]) (by rw [R.out]), hB⟩
end Go.Proofs.Ytlndioefemdpjaa
