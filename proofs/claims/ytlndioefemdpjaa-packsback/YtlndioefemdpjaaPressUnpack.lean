/- What the program's Unpack answers. -/
import Derived.Test.YtlndioefemdpjaaPressPart
namespace Go.Proofs.Ytlndioefemdpjaa
open Go.RowKit Go.Lib

theorem ext_at (s : ByteArray) (a b j : Nat) (hb : b ≤ s.size) (hj : a + j < b) : (s.extract a b)[j]'(by rw [ByteArray.size_extract]; omega) = s[a + j] := by
  rw [ByteArray.getElem_extract]
theorem owns_slice {w : World} {base n : Nat} {e : TypeId} {size : Nat} {v : Value} {xs : List Value} (h : w.ownsRow base e size v n xs) : ∃ ao cap, v = .slice ao n cap := by
  rcases h.2 with ⟨rfl, rfl⟩ | ⟨g, cap, _, hv, _, _⟩
  · exact ⟨none, 0, rfl⟩
  · exact ⟨_, cap, hv⟩
theorem ret_ss {a b : ByteArray} {k : IntKind} {n m : Int} (h : a = b) (h' : n = m) : Ending.returned (.tuple #[.string a, .int k n]) = .returned (.tuple #[.string b, .int k m]) := by rw [h, h']

set_option maxHeartbeats 1600000 in
set_option maxRecDepth 4000 in
theorem unpack_any (s : ByteArray) (w : World) (hs : s.size ≤ maxLen) :
    Calls Try.prog 14 #[.string s] w fun e w' => e = .returned (.tuple #[.string (str (unp [] s.data.toList).1), .int .i64 (unp [] s.data.toList).2]) ∧ Below w.heap.size w w' := by
  unfold maxLen at hs
  obtain ⟨U, hU⟩ : ∃ U, unp [] s.data.toList = U := ⟨_, rfl⟩
  rw [hU]
  have HU : Hid (unpAt [] s.data.toList 0 = U) := hU
  clear hU
  go_enter Try.func14, Try.ntmps14
  go_wp2_with fail
  go_loopw [4, 5] (fun v i wr => ∃ (ao : Option Addr) (m cap I : Nat) (O : List UInt8), v = .slice ao m cap ∧ i = .int .i64 I ∧ I ≤ s.size ∧ Hid (m = O.length) ∧ Hid (O.length ≤ 600) ∧ Hid (ownsB wr w.heap.size (.slice ao m cap) O) ∧ Below w.heap.size w wr ∧ Hid (unpAt O s.data.toList I = U)) (fun _ i _ => s.size - (intOf i).toNat)
  case atStart => exact ⟨none, 0, 0, 0, [], rfl, rfl, Nat.zero_le _, rfl, by show _ ≤ _; simp, World.ownsRow_nil _ _ _ _, Below.refl _ _, HU⟩
  case round =>
    obtain ⟨ao, m, cap, I, O, rfl, rfl, hI, HM, HO, HW, hB, HR⟩ := hrel
    clear HU
    by_cases hlt : I < s.size
    · have hlt' : (I : Int) < s.size := by omega
      have hb0 := bat_ba s I hlt
      obtain ⟨c, hc⟩ : ∃ c, s[I] = c := ⟨_, rfl⟩
      rw [hc] at hb0
      have HB := hid hb0
      clear hb0
      have hl : s.data.toList.length = s.size := ba_len s
      have HL := hid hl
      clear hl
      by_cases hc1 : c.toNat < 128
      · have hc1' : (c.toNat : Int) < 128 := by omega
        have HC := hid (fun wx => partSize_lo c wx hc1)
        by_cases hsh : s.size < I + 2 + c.toNat
        · have h1 : (s.size : Int) - I < c.toNat + 2 := by omega
          have R : Hid (U = ([], 5)) := by
            show _ = _
            rw [← HR.out, unpAt_short O _ I (by rw [HL.out]; exact hlt) (by rw [HB.out]; exact hc1) (by rw [HL.out, HB.out]; exact hsh)]
          clear HR HB hsh hc1
          go_wp2_with fail
          refine (HC.out _).mono ?_
          rintro _ _ ⟨rfl, rfl⟩
          clear HC
          go_wp2
          go_ret2
          exact ⟨ret_ss (by rw [R.out]; rfl) (by rw [R.out]), hB⟩
        · obtain ⟨S, hS⟩ : ∃ S, c.toNat + 2 = S := ⟨_, rfl⟩
          obtain ⟨J, hJ⟩ : ∃ J, I + S = J := ⟨_, rfl⟩
          have hps : (s.extract I J).size = c.toNat + 2 := by rw [ext_size _ _ _ (by omega)]; omega
          have z0 : 0 < (s.extract I J).size := by omega
          have z1 : 1 < (s.extract I J).size := by omega
          have hp0 : (s.extract I J)[0]'z0 = c := by rw [ext_at s I J 0 (by omega) (by omega)]; exact hc
          rw [show ((c.toNat : Int) + 2) = (S : Int) by omega] at HC
          have j1 : (I : Int) + S = J := by omega
          have j2 : (J : Int) ≤ s.size := by omega
          have j3 : ¬ (s.size : Int) - I < S := by omega
          have j4 : (I : Int) ≤ J := by omega
          have hbs := hB.size
          have hcut : cut (s.extract I J).data.toList 1 (c.toNat + 2) = cut s.data.toList (I + 1) (I + 2 + c.toNat) := by
            rw [ext_list, cut, cut, cut, List.take_drop, List.drop_drop, List.take_take]
            congr 2; omega
          by_cases h6 : O.length + (c.toNat + 1) ≤ 600
          · have hx := part_plain w.heap.size ao m cap O (s.extract I J) c wr HW.out HM.out hbs z0 z1 hps hp0 hc1 h6
            rw [ext_list (s.extract I J), hps, hcut] at hx
            have R : Hid (unpAt (O ++ cut s.data.toList (I + 1) (I + 2 + c.toNat)) s.data.toList J = U) := by
              show _ = _
              have := unpAt_plain O s.data.toList I (by rw [HL.out]; exact hlt) (by rw [HB.out]; exact hc1) (by rw [HL.out, HB.out]; omega) (by rw [HB.out]; exact h6)
              rw [HB.out] at this
              rw [← HR.out, this, show I + 2 + c.toNat = J by omega]
            have L : Hid ((O ++ cut s.data.toList (I + 1) (I + 2 + c.toNat)).length ≤ 600) := by
              show _ ≤ _
              rw [List.length_append, cut_length _ _ _ (by rw [HL.out]; omega)]; omega
            generalize O ++ cut s.data.toList (I + 1) (I + 2 + c.toNat) = O2 at hx R L
            have HX := hid hx
            have HJ := hid (And.intro hS hJ)
            clear hx hcut hp0 z0 z1 hps hsh hc1 hS hJ HR HB
            go_wp2_with fail
            refine (HC.out _).mono ?_
            rintro _ _ ⟨rfl, rfl⟩
            clear HC
            go_wp2_with fail
            refine HX.out.mono ?_
            rintro _ w2 ⟨g5, m5, cap5, rfl, hown5, hb5⟩
            have H5 := hid (And.intro hown5 (hB.trans hb5))
            clear hown5 hb5 hB HX
            go_wp2
            go_roundw
            case rel => exact ⟨some ⟨g5, 0, none⟩, m5, cap5, J, O2, rfl, rfl, by omega, (own_len H5.out.1).1, L, H5.out.1, H5.out.2, R⟩
            case measure => have := HJ.out; simp [intOf]; omega
          · have hx := part_plain_size w.heap.size ao m cap O (s.extract I J) c wr HW.out HM.out hbs HO.out z0 z1 hps hp0 hc1 (by omega)
            have R : Hid (U = ([], 1)) := by
              show _ = _
              rw [← HR.out, unpAt_size O s.data.toList I (by rw [HL.out]; exact hlt) (by rw [HB.out]; exact hc1) (by rw [HL.out, HB.out]; omega) (by rw [HB.out]; omega)]
            have HX := hid hx
            clear hx hcut hp0 z0 z1 hps hsh hc1 hS hJ HR HB h6
            go_wp2_with fail
            refine (HC.out _).mono ?_
            rintro _ _ ⟨rfl, rfl⟩
            clear HC
            go_wp2_with fail
            refine HX.out.mono ?_
            rintro _ w2 ⟨rfl, hb5⟩
            have H5 := hid (hB.trans hb5)
            clear hb5 hB HX
            go_wp2
            go_ret2
            exact ⟨ret_ss (by rw [R.out]; rfl) (by rw [R.out]), H5.out⟩
      · have HC := hid (fun wx => partSize_hi c wx (by omega))
        by_cases hsh : s.size < I + 2
        · have h1 : (s.size : Int) - I < 2 := by omega
          have R : Hid (U = ([], 5)) := by
            show _ = _
            rw [← HR.out, unpAt_short2 O _ I (by rw [HL.out]; exact hlt) (by rw [HB.out]; omega) (by rw [HL.out]; exact hsh)]
          clear HR HB hsh hc1
          go_wp2_with fail
          refine (HC.out _).mono ?_
          rintro _ _ ⟨rfl, rfl⟩
          clear HC
          go_wp2
          go_ret2
          exact ⟨ret_ss (by rw [R.out]; rfl) (by rw [R.out]), hB⟩
        · obtain ⟨J, hJ⟩ : ∃ J, I + 2 = J := ⟨_, rfl⟩
          have hps : (s.extract I J).size = 2 := by rw [ext_size _ _ _ (by omega)]; omega
          have z0 : 0 < (s.extract I J).size := by omega
          have z1 : 1 < (s.extract I J).size := by omega
          obtain ⟨d, hd⟩ : ∃ d, s[I + 1]'(by omega) = d := ⟨_, rfl⟩
          have hb1 := bat_ba s (I + 1) (by omega)
          rw [hd] at hb1
          have HD := hid hb1
          have hp0 : (s.extract I J)[0]'z0 = c := by rw [ext_at s I J 0 (by omega) (by omega)]; exact hc
          have hp1 : (s.extract I J)[1]'z1 = d := by rw [ext_at s I J 1 (by omega) (by omega)]; exact hd
          have j1 : (I : Int) + 2 = J := by omega
          have j2 : (J : Int) ≤ s.size := by omega
          have j3 : ¬ (s.size : Int) - I < 2 := by omega
          have j4 : (I : Int) ≤ J := by omega
          have hbs := hB.size
          by_cases hf : d.toNat = 0 ∨ O.length < d.toNat
          · have hx := part_form w.heap.size ao m cap O (s.extract I J) c wr HW.out HM.out z0 z1 d hps hp0 hp1 (by omega) hf
            have R : Hid (U = ([], 4)) := by
              show _ = _
              rw [← HR.out, unpAt_form O s.data.toList I (by rw [HB.out]; omega) (by rw [HL.out]; omega) (by rw [HD.out]; exact hf)]
            have HX := hid hx
            clear hx hp0 hp1 z0 z1 hps hsh hc1 hJ HR HB hf hb1 HD hd
            go_wp2_with fail
            refine (HC.out _).mono ?_
            rintro _ _ ⟨rfl, rfl⟩
            clear HC
            go_wp2_with fail
            refine HX.out.mono ?_
            rintro _ w2 ⟨rfl, hb5⟩
            have H5 := hid (hB.trans hb5)
            clear hb5 hB HX
            go_wp2
            go_ret2
            exact ⟨ret_ss (by rw [R.out]; rfl) (by rw [R.out]), H5.out⟩
          · by_cases h6 : O.length + (c.toNat - 124) ≤ 600
            · have hx := part_piece w.heap.size ao m cap O (s.extract I J) c wr HW.out HM.out hbs HO.out z0 z1 d hps hp0 hp1 (by omega) hf h6
              have R : Hid (unpAt (piece O d.toNat (c.toNat - 124)) s.data.toList J = U) := by
                show _ = _
                have := unpAt_piece O s.data.toList I (by rw [HB.out]; omega) (by rw [HL.out]; omega) (by rw [HD.out]; exact hf) (by rw [HB.out]; exact h6)
                rw [HB.out, HD.out] at this
                rw [← HR.out, this, hJ]
              have L : Hid ((piece O d.toNat (c.toNat - 124)).length ≤ 600) := by
                show _ ≤ _
                rw [piece_length]; exact h6
              generalize piece O d.toNat (c.toNat - 124) = O2 at hx R L
              have HX := hid hx
              have HJ := hid hJ
              clear hx hp0 hp1 z0 z1 hps hsh hc1 hJ HR HB hf hb1 HD hd
              go_wp2_with fail
              refine (HC.out _).mono ?_
              rintro _ _ ⟨rfl, rfl⟩
              clear HC
              go_wp2_with fail
              refine HX.out.mono ?_
              rintro _ w2 ⟨g5, m5, cap5, rfl, hown5, hb5⟩
              have H5 := hid (And.intro hown5 (hB.trans hb5))
              clear hown5 hb5 hB HX
              go_wp2
              go_roundw
              case rel => exact ⟨some ⟨g5, 0, none⟩, m5, cap5, J, O2, rfl, rfl, by omega, (own_len H5.out.1).1, L, H5.out.1, H5.out.2, R⟩
              case measure => have := HJ.out; simp [intOf]; omega
            · have hx := part_piece_size w.heap.size ao m cap O (s.extract I J) c wr HW.out HM.out hbs HO.out z0 z1 d hps hp0 hp1 (by omega) hf (by omega)
              have R : Hid (U = ([], 1)) := by
                show _ = _
                rw [← HR.out, unpAt_size2 O s.data.toList I (by rw [HB.out]; omega) (by rw [HL.out]; omega) (by rw [HD.out]; exact hf) (by rw [HB.out]; omega)]
              have HX := hid hx
              clear hx hp0 hp1 z0 z1 hps hsh hc1 hJ HR HB hf hb1 HD hd h6
              go_wp2_with fail
              refine (HC.out _).mono ?_
              rintro _ _ ⟨rfl, rfl⟩
              clear HC
              go_wp2_with fail
              refine HX.out.mono ?_
              rintro _ w2 ⟨rfl, hb5⟩
              have H5 := hid (hB.trans hb5)
              clear hb5 hB HX
              go_wp2
              go_ret2
              exact ⟨ret_ss (by rw [R.out]; rfl) (by rw [R.out]), H5.out⟩
    · have R : Hid (U = (O, 0)) := by
        show _ = _
        rw [← HR.out, unpAt_end O _ I (by rw [ba_len]; omega)]
      have hge : ¬ (I : Int) < s.size := by omega
      have hcv := conv_own HW.out
      clear HR hlt
      go_wp2
      go_ret2
      exact ⟨ret_ss (by rw [R.out]) (by rw [R.out]), hB⟩
end Go.Proofs.Ytlndioefemdpjaa
