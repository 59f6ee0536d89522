/- Joined texts: SectorEnc, SectorRef, SectorPay. -/
import Derived.Test.YtahoagbaadnihabGreatDoorLow
import Derived.Test.YtahoagbaadnihabGreatDoorSumAll
import Derived.Test.YtahoagbaadnihabGreatDoorMem
import Derived.Lib.BufferWrite
import Derived.Laws.MakeOwn
import Derived.Deep.RegionWith
import Derived.Deep.QuietTactic
import Derived.BigQuiet
/- What the program's sector.Encode answers: the very bytes and the very error of 'encd'; nothing that was there is changed. -/
namespace Go.Proofs.YtahoagbaadnihabGreatDoor
open Go.RowKit Go.Lib

/-- A row of 0s, as 'make' lays it. -/
theorem made_u8 (n : Nat) : (madeCells (Value.int .u8 0).cells (n * 1)).toList = List.replicate n (.int .u8 0) := by
  apply List.ext_getElem
  · simp [madeCells]
  · intro i h1 h2
    simp [madeCells, Value.cells, Nat.mod_one]
theorem run_make_u8 (w : World) (n : Nat) (hn : n ≤ 281474976710656) : ∃ M : Array Value, M.toList = List.replicate n (.int .u8 0) ∧
    (Instr.makeSlice 97 (.int .i64 (n : Int)) (.int .i64 (n : Int))).run Tryz.prog w = .ok (.slice (some ⟨w.heap.size, 0, none⟩) n n) (w.alloc (.cells M 5)) := by
  obtain ⟨i0, hi, hz0, hz1, hz2⟩ := info_parts info_u8
  have h := run_make (P := Tryz.prog) w 97 5 i0 (.int .u8 0) Tryz.underlying97 hi hz0 .i64 .i64 (n : Int) (n : Int) (by omega) (by omega) (by rw [hz2]; omega) (by omega)
  rw [hz1] at h
  simp only [Int.toNat_natCast] at h
  exact ⟨_, made_u8 n, h⟩

theorem encode_range (no : Int) (s : ByteArray) (w : World) (h : no < 0 ∨ 65535 < no) :
    Calls Tryz.prog 150 #[.int .i64 no, .string s] w fun e w' => e = .returned (.tuple #[.string (str []), .int .i64 2]) ∧ Below w.heap.size w w' := by
  by_cases h0 : no < 0
  · clear h
    go_enter Tryz.func150, Tryz.ntmps150
    go_wp2
    go_ret2
    exact ⟨rfl, Below.refl _ _⟩
  · have h1 : 65535 < no := by omega
    have h2 : 0 ≤ no := by omega
    clear h h0
    go_enter Tryz.func150, Tryz.ntmps150
    go_wp2
    go_ret2
    exact ⟨rfl, Below.refl _ _⟩
theorem encode_size (no : Int) (s : ByteArray) (w : World) (h0 : 0 ≤ no) (h1 : no ≤ 65535) (h : 24 < s.size) :
    Calls Tryz.prog 150 #[.int .i64 no, .string s] w fun e w' => e = .returned (.tuple #[.string (str []), .int .i64 1]) ∧ Below w.heap.size w w' := by
  have h' : (24 : Int) < s.size := by omega
  go_enter Tryz.func150, Tryz.ntmps150
  go_wp2
  go_ret2
  exact ⟨rfl, Below.refl _ _⟩

/-- The row behind the two stores and the copy. -/
theorem row_body (no : Int) (h0 : 0 ≤ no) (h1 : no ≤ 65535) (s : ByteArray) (X : List Value) (hX : X = ((List.replicate 26 (Value.int .u8 0)).set 0 (.int .u8 (no / 256))).set 1 (.int .u8 (no % 256))) :
    X.take 2 ++ byteCells s.data.toList ++ X.drop (2 + s.size) = bytesV (body no s.data.toList) := by
  subst hX
  have e1 : bytesV (be2 no) = [.int .u8 (no / 256), .int .u8 (no % 256)] := bytesV_byt2 _ _ (by omega) (by omega) (by omega) (by omega)
  have e2 : ((List.replicate 26 (Value.int .u8 0)).set 0 (.int .u8 (no / 256))).set 1 (.int .u8 (no % 256)) = [.int .u8 (no / 256), .int .u8 (no % 256)] ++ List.replicate 24 (.int .u8 0) := rfl
  rw [body, bytesV_app, e1, e2, pad, bytesV_app, List.append_assoc]
  congr 1
  have e3 : ([Value.int .u8 (no / 256), Value.int .u8 (no % 256)] ++ List.replicate 24 (Value.int .u8 0)).drop (2 + s.size) = List.replicate (24 - s.size) (.int .u8 0) := by
    rw [← List.drop_drop, List.drop_left' (by rfl), List.drop_replicate]
  rw [e3]
  congr 1
  simp [bytesV]

set_option maxHeartbeats 1600000 in
set_option maxRecDepth 4000 in
theorem encode_ok (no : Int) (s : ByteArray) (w : World) (h0 : 0 ≤ no) (h1 : no ≤ 65535) (hs : s.size ≤ 24) :
    Calls Tryz.prog 150 #[.int .i64 no, .string s] w fun e w' => e = .returned (.tuple #[.string (str (sealed (body no s.data.toList))), .int .i64 0]) ∧ Below w.heap.size w w' := by
  have hs' : (s.size : Int) ≤ 24 := by omega
  obtain ⟨M, hM, hmk⟩ := run_make_u8 w 26 (by omega)
  have hMs : M.size = 26 := by rw [← Array.length_toList, hM, List.length_replicate]
  have m0 : M[0]? = some (.int .u8 0) := by rw [← Array.getElem?_toList, hM]; rfl
  have m1 : M[1]? = some (.int .u8 0) := by rw [← Array.getElem?_toList, hM]; rfl
  obtain ⟨X, hX⟩ : ∃ X, X = (M.setIfInBounds 0 (.int .u8 (no / 256))).setIfInBounds 1 (.int .u8 (no % 256)) := ⟨_, rfl⟩
  have hXs : X.size = 26 := by rw [hX]; simp [hMs]
  have hXl : X.toList = ((List.replicate 26 (Value.int .u8 0)).set 0 (.int .u8 (no / 256))).set 1 (.int .u8 (no % 256)) := by rw [hX, Array.toList_setIfInBounds, Array.toList_setIfInBounds, hM]
  have hr := row_body no h0 h1 s X.toList hXl
  have hg : (w.alloc (.cells X 5)).heap[w.heap.size]? = some (.cells X 5 (0, 0)) := heap_alloc_new w _
  have hcp := run_copy_row_string (P := Tryz.prog) (w.alloc (.cells X 5)) 97 9 3 5 w.heap.size 2 24 24 s X 5 Tryz.underlying97 (by kernel_rfl) hg hs (by omega)
  rw [hr] at hcp
  have hl := body_length no s.data.toList (by rw [ba_len]; exact hs)
  have hgY : ((w.alloc (.cells X 5)).setRow w.heap.size (bytesV (body no s.data.toList)).toArray).heap[w.heap.size]? = some (.cells (bytesV (body no s.data.toList)).toArray 5 (0, 0)) := setRow_heap _ _ X _ 5 (0, 0) hg
  have hcv := run_convert_bytes_back (P := Tryz.prog) ((w.alloc (.cells X 5)).setRow w.heap.size (bytesV (body no s.data.toList)).toArray) 97 9 5 ⟨w.heap.size, 0, none⟩ 26 (body no s.data.toList) Tryz.underlying97 Tryz.underlying5 Tryz.underlying9 (by
    intro j hj
    rw [Addr.add_lit, Nat.zero_add]
    unfold World.cell?
    rw [hgY]
    simp [bytesV, hj])
  rw [hl] at hcv
  change _ = Result.ok (Value.string (str (body no s.data.toList))) _ at hcv
  have hb3 : Below w.heap.size w (w.alloc (.cells X 5)) := (Below.refl _ w).alloc (Nat.le_refl _) _
  have hb4 : Below w.heap.size w ((w.alloc (.cells X 5)).setRow w.heap.size (bytesV (body no s.data.toList)).toArray) := hb3.trans ⟨rfl, rfl, rfl, by simp, fun k hk => setRow_other _ _ _ _ (by omega)⟩
  have ho := fun wx => of_any (str (body no s.data.toList)) wx (by rw [str_size, hl]; unfold maxLen; omega)
  rw [str_list] at ho
  have hsz : (str (body no s.data.toList)).size = 26 := by rw [str_size, hl]
  have hz : (str (sealOf (body no s.data.toList))).size = 4 := rfl
  have hadd : str (body no s.data.toList) ++ str (sealOf (body no s.data.toList)) = str (sealed (body no s.data.toList)) := str_app _ _
  generalize sealed (body no s.data.toList) = SB at hadd ⊢
  generalize str (sealOf (body no s.data.toList)) = SS at hadd hz ho
  generalize str (body no s.data.toList) = BB at hadd hsz ho hcv
  generalize (w.alloc (.cells X 5)).setRow w.heap.size (bytesV (body no s.data.toList)).toArray = W4 at hb4 hcv hcp
  have HA := hid hadd
  have HB := hid hb4
  have HO := hid ho
  clear hadd hb4 ho hgY hr hXl hXs hb3 hg hl hM hMs
  subst hX
  simp only [show ((26 : Nat) : Int) = 26 from rfl] at hmk
  go_enter Tryz.func150, Tryz.ntmps150
  go_wp2_with fail
  refine (HO.out _).mono ?_
  rintro _ w5 ⟨rfl, g1⟩
  go_wp2
  go_ret2
  exact ⟨ret_si HA.out, HB.out.trans (g1.mono HB.out.size)⟩

theorem encode_any (no : Int) (s : ByteArray) (w : World) :
    Calls Tryz.prog 150 #[.int .i64 no, .string s] w fun e w' => e = .returned (.tuple #[.string (str (encd no s.data.toList).1), .int .i64 (encd no s.data.toList).2]) ∧ Below w.heap.size w w' := by
  unfold encd
  by_cases h : no < 0 ∨ 65535 < no
  · rw [if_pos h]
    exact encode_range no s w h
  · rw [if_neg h]
    by_cases h2 : 24 < s.data.toList.length
    · rw [if_pos h2]
      rw [ba_len] at h2
      exact encode_size no s w (by omega) (by omega) h2
    · rw [if_neg h2]
      rw [ba_len] at h2
      exact encode_ok no s w (by omega) (by omega) (by omega)
end Go.Proofs.YtahoagbaadnihabGreatDoor

/- What the document's own SectorBytes answers: the very bytes and the very error of 'encd'. -/
namespace Go.Proofs.YtahoagbaadnihabGreatDoor
open Go.RowKit Go.Lib

end Go.Proofs.YtahoagbaadnihabGreatDoor

/- What the document's own PayloadOf answers: the very bytes and the very error of 'decd'. -/
namespace Go.Proofs.YtahoagbaadnihabGreatDoor
open Go.RowKit Go.Lib

end Go.Proofs.YtahoagbaadnihabGreatDoor
