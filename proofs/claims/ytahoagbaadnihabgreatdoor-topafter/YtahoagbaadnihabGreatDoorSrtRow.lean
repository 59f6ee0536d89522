/- slices.SortFunc at entries: they are laid in the order of their names; nothing else is changed. -/
import Derived.Test.YtahoagbaadnihabGreatDoorShelfSort
import Derived.Test.YtahoagbaadnihabGreatDoorShelfCmp
import Derived.Test.YtahoagbaadnihabGreatDoorArcM
import Derived.Test.YtahoagbaadnihabGreatDoorMem2
namespace Go.Proofs.YtahoagbaadnihabGreatDoor
open Go.RowKit Go.Lib Go.Sort Go.Shelf

def cmpE (x y : En) : Int := Lib.compareBytes x.s.data.toList y.s.data.toList
theorem ltE (x y : En) : ltOf cmpE x y = lss x.s y.s := by
  unfold ltOf cmpE lss
  rw [cmp_less, ByteArray.toList_eq, ByteArray.toList_eq]
theorem swoE : SWO (ltOf cmpE) where
  irrefl x := by rw [ltE]; exact lss_irr _
  trans x y z h1 h2 := by rw [ltE] at *; exact lss_trans h1 h2
  ntrans x y z h1 h2 := by
    rw [ltE] at *
    cases h : lss x.s z.s with
    | false => rfl
    | true =>
      cases h3 : lss y.s x.s with
      | true => have := lss_trans h3 h; rw [h2] at this; cases this
      | false =>
        have e := lss_tri h1 h3
        rw [e, h2] at h; cases h

set_option maxHeartbeats 1000000 in
theorem cmpclosure_any (x y : En) (W : World) : Calls Tryz.prog 161 #[.agg #[.string x.s, .int .i64 x.b, .int .i64 x.a, .int .i64 x.n], .agg #[.string y.s, .int .i64 y.b, .int .i64 y.a, .int .i64 y.n]] W fun e w' => e = .returned (.int .i64 (cmpE x y)) ∧ ∃ q os', w' = grow (W.drewN q) os' := by
  have hcon := hid (fun W' => Tryz.strings_Compare x.s y.s W')
  obtain ⟨r, hr⟩ : ∃ r, cmpE x y = r := ⟨_, rfl⟩
  rw [hr]
  unfold cmpE at hr
  rw [hr] at hcon
  clear hr
  go_enter Tryz.func161, Tryz.ntmps161
  go_wp2_with (go_at_call 162; refine (hcon.out _).mono ?_; rintro e w' ⟨rfl, h9⟩; (have h8 := h9.symm); subst h8)
  go_ret
  exact ⟨rfl, 0, _, by rw [alloc_eq_grow, alloc_eq_grow, grow_grow]; rfl⟩
theorem cmpLaysE [Inhabited En] (blk off size : Nat) (w : World) : CmpLays Tryz.prog 161 #[] entC 4 cmpE blk off size w := fun _ _ _ _ x y => cmpclosure_any x y _

theorem flat_at [Inhabited En] (E : List En) (j : Nat) (h : j < E.length * 4) : some (flatK entC 4 E.toArray)[j]! = (entV E)[j]? := by
  rw [get_flatK _ _ _ _ (by simpa using h)]
  have hi : j / 4 < E.length := by omega
  have e : E.toArray[j / 4]! = en E (j / 4) := by rw [en_lt E _ hi]; simp [hi]
  rw [e]
  obtain ⟨a0, a1, a2, a3⟩ := entV_at E (j / 4) hi
  have h4 : j % 4 < 4 := by omega
  have hj : j = j / 4 * 4 + j % 4 := by omega
  generalize j / 4 = q at *
  generalize j % 4 = r at *
  subst hj
  match r, h4 with
  | 0, _ => rw [Nat.add_zero, a0]; rfl
  | 1, _ => rw [a1]; rfl
  | 2, _ => rw [a2]; rfl
  | 3, _ => rw [a3]; rfl
theorem own_holds [Inhabited En] {w : World} {b : Nat} {E : List En} (h : Own w b 151 (entV E)) : HoldsK entC 4 w b 0 E.toArray := by
  intro j hj
  rw [size_flatK] at hj
  have hj' : j < E.length * 4 := by simpa using hj
  refine ⟨?_, h.free _⟩
  rw [Nat.zero_add]
  exact h.cell (i := j) (flat_at E j hj').symm
theorem holds_ent [Inhabited En] {w : World} {b : Nat} {d : Array En} (h : HoldsK entC 4 w b 0 d) (hb : b < w.heap.size) (hn : d.size ≤ maxLen) (hs : ∀ i, i < d.size → (en d.toList i).s.size ≤ maxLen) : EntAt w (some ⟨b, 0, none⟩) d.size d.toList := by
  refine ⟨by simp, hn, hs, fun i hi => ⟨b, 0, rfl, hb, ?_, ?_, ?_, ?_⟩⟩
  all_goals
    have e : d[i]! = en d.toList i := by rw [en_lt _ i (by simpa using hi)]; simp [hi]
  · have := (h.cell (i := i) (c := 0) hi (by omega)).1; rw [e] at this; exact this
  · have := (h.cell (i := i) (c := 1) hi (by omega)).1; rw [e] at this; exact this
  · have := (h.cell (i := i) (c := 2) hi (by omega)).1; rw [e] at this; exact this
  · have := (h.cell (i := i) (c := 3) hi (by omega)).1; rw [e] at this; exact this
theorem sort_chg [Inhabited En] (w : World) (b q : Nat) (d : Array En) (os : Array Obj) : Chg (fun k => k = b) w (sortWorldK entC 4 w b 0 q d os) := by
  refine ⟨rfl, rfl, rfl, size_sortWorldK_c entC 4 w b 0 q d os, fun k hk hp => ?_⟩
  show ((w.heap.modify b _) ++ os)[k]? = _
  rw [Array.getElem?_append_left (by simpa using hk), Array.getElem?_modify, if_neg (fun e => hp e.symm)]

/-- What comes of a sort. -/
def Sorted (w : World) (b : Nat) (E : List En) (w' : World) : Prop := ∃ E' : List En, E'.Perm E ∧ (E'.Pairwise fun x y => lss y.s x.s = false) ∧ EntAt w' (some ⟨b, 0, none⟩) E.length E' ∧ Chg (fun k => k = b) w w'

set_option maxHeartbeats 1000000 in
theorem sortbyname_any (b cap : Nat) (E : List En) (w : World) (h : Own w b 151 (entV E)) (hl : E.length ≤ 1000) (hs : ∀ x ∈ E, x.s.size ≤ maxLen) :
    Calls Tryz.prog 119 #[.slice (some ⟨b, 0, none⟩) E.length cap] w fun e w' => e = .returned (.tuple #[]) ∧ Sorted w b E w' := by
  have : Inhabited En := ⟨nilE⟩
  have eg : ∀ args w, (callFunc 161 args).run Tryz.prog w = .ok (.enter 161 args) w := enters_of Tryz.func161 (by kernel_rfl) rfl
  have hH := own_holds h
  have hcon := AnyQ.slices_SortFunc Tryz.laysSort 4 Tryz.isAgg151 Tryz.sizeOf151 entC (fun _ => rfl) oneCell_ent cmpE swoE 161 #[] b 0 cap E.toArray w eg (cmpLaysE b 0 _ w) hH h.lt (by simp; omega)
  have HC : Hid (Calls Tryz.prog 160 #[.slice (some ⟨b, 0, none⟩) E.length cap, .func (.func 161) #[] #[]] w fun e w' => e = .returned (.tuple #[]) ∧ Sorted w b E w') := by
    refine Calls.mono hcon ?_
    rintro e w' ⟨rfl, d', q, os, hp, hsr, rfl⟩
    refine ⟨rfl, d'.toList, ?_, ?_, ?_, sort_chg w b q d' os⟩
    · have := hp.2.2
      rw [show d'.extract 0 E.toArray.size = d' by rw [← hp.1]; simp] at this
      simpa using this
    · refine List.pairwise_iff_getElem.2 fun i j hi hj hij => ?_
      have e := hsr i j (Nat.zero_le _) hij (by rw [← hp.1]; simpa using hj)
      rw [ltE] at e
      have hi' : i < d'.size := by simpa using hi
      have hj' : j < d'.size := by simpa using hj
      rw [getElem!_pos d' i hi', getElem!_pos d' j hj'] at e
      simpa using e
    · have hz : d'.size = E.length := by rw [hp.1]; simp
      have hpm : d'.toList.Perm E := by
        have := hp.2.2
        rw [show d'.extract 0 E.toArray.size = d' by rw [← hp.1]; simp] at this
        simpa using this
      have := holds_ent (holdsK_sortWorldK_c entC 4 w b 0 E.toArray d' q os hH h.lt hp.1) (Nat.lt_of_lt_of_le h.lt (size_sortWorldK_c entC 4 w b 0 q d' os)) (by rw [hz]; unfold maxLen; omega) (fun i hi => by
        rw [en_lt _ i (by simpa using hi)]
        exact hs _ (hpm.mem_iff.1 (List.getElem_mem _)))
      rw [hz] at this
      exact this
  clear hcon hH h
  go_enter Tryz.func119, Tryz.ntmps119
  go_wp2_with (go_at_call 160; refine HC.out.mono ?_; rintro e w' ⟨rfl, h9⟩)
  go_end0
  exact ⟨rfl, h9⟩
end Go.Proofs.YtahoagbaadnihabGreatDoor
