/- Joined texts: KeepAdds, KeepGets, TopConcat. -/
import Derived.Test.YtahoagbaadnihabGreatDoorKeepF
import Derived.Test.YtahoagbaadnihabGreatDoorKeepSet
import Derived.Test.YtahoagbaadnihabGreatDoorShlMem
import Derived.Test.YtahoagbaadnihabGreatDoorTopP
import Derived.Lib.AppendZeros
/- What Adds answers: acts that add files, two at a time; and all files. -/
namespace Go.Proofs.YtahoagbaadnihabGreatDoor
open Go.RowKit Go.Lib

/-- append of acts, as a step of a walk. -/
theorem wpList_appendX (w : World) {ops : Array Oper} {rest : List Oper} {o : Oper} {a : Act} {Q : Exit → Act → World → Prop} (hgd : o.guard = none) (s x : Operand)
    (ho : o.op = .call { callee := .builtin .append, args := #[s, x], argTypes := #[23, 23] })
    (base : Nat) (v : Value) (L M : List Ax) (hs : a.eval s = v) (H : ActI w base v L) (xa : Option Addr) (n2 c2 : Nat) (hx : a.eval x = .slice xa n2 c2) (hn : n2 = M.length) (hc : M = [] ∨ ∃ ad, xa = some ad ∧ ∀ j u, (axV M)[j]? = some u → w.cell? (ad.add j) = some u) (hok : ∀ q ∈ M, AxOk w q ∧ Off v.ownBlock q.f.a q.f.n) (hb : L.length + M.length ≤ 100000) (hbase : base ≤ w.heap.size)
    (h : ∀ a' n' c' w', Hid (n' = (L ++ M).length) → ActI w' base (.slice a' n' c') (L ++ M) → w.grownBy w' v.ownBlock → wpList Tryz.prog ops Q rest (a.put o.dst (.slice a' n' c')) w') :
    wpList Tryz.prog ops Q (o :: rest) a w := by
  subst hn
  obtain ⟨a', n', c', w', hr, h1, h2, h3⟩ := run_appendX (ty := o.type) H M xa c2 hc hok hb hbase
  refine wpList_plain hgd fun K hK => ?_
  unfold Oper.wp execOp
  simp only [ho, resolve, invoke, builtin, Sem.run_bind, Sem.run_pure, Result.andThen_ok, List.map_toArray, List.map_cons, List.map_nil, hs, hx, hr]
  exact hK _ _ (h a' n' c' w' h1 h2 h3)
/-- append of files onto a row of the call's own. -/
theorem run_appendFs (w : World) (ty : TypeId) (base : Nat) (v : Value) (F : List Fi) (H : w.ownsRow base 52 2 v F.length (filV F)) (G : List Fi) (x : Option Addr) (c2 : Nat) (hG : 0 < G.length) (hx : FilAt w x G.length G) (hb : F.length + G.length ≤ 100000) (hbase : base ≤ w.heap.size) :
    ∃ a' n' c' w', (Builtin.append_ #[24, 24] ty #[v, .slice x G.length c2]).run Tryz.prog w = .ok (.slice a' n' c') w' ∧ n' = (F ++ G).length ∧ w'.ownsRow base 52 2 (.slice a' n' c') (F ++ G).length (filV (F ++ G)) ∧ w.grownBy w' v.ownBlock ∧ ((Value.slice a' n' c').ownBlock = v.ownBlock ∨ (Value.slice a' n' c').ownBlock = some w.heap.size) := by
  obtain ⟨i0, hi, hz0, hz1, hz2⟩ := info_parts info_fil
  obtain ⟨ad, rfl⟩ : ∃ ad, x = some ad := by
    obtain ⟨b, o, e, _⟩ := hx.c 0 hG
    exact ⟨_, e⟩
  have hnews := hx.rows.2 ad rfl
  obtain ⟨v', w', hr, ho, hg, hn⟩ := run_append_own (P := Tryz.prog) w base 24 ty 52 i0 _ 2 32 Tryz.underlying24 hi hz0 hz1 hz2 rfl (by decide) v F.length (filV F) H ad G.length c2 (filV G) (filV_len G) hnews (oneCell_fils G) (by unfold maxLen; omega) (by omega) hbase
  have ho' : w'.ownsRow base 52 2 v' (F ++ G).length (filV (F ++ G)) := by rw [filV_app, List.length_append]; exact ho
  obtain ⟨g, cap, rfl, hgb⟩ := owns_form ho' (by rw [List.length_append]; omega)
  refine ⟨_, _, _, w', hr, rfl, ho', hg, ?_⟩
  rcases H.2 with ⟨rfl, _⟩ | ⟨g2, cap2, cur, rfl, hbg, hh, hnc, hcm, hcs, htake⟩
  · have hr2 := run_append_nil (P := Tryz.prog) w 24 ty 52 i0 _ Tryz.underlying24 hi hz0 ad G.length c2 (filV G) (by rw [filV_len, hz1]) hnews hG (by omega) (by rw [hz2]; omega)
    exact .inr (own_same hr hr2).1
  · by_cases hroom : F.length + G.length ≤ cap2
    · have hr2 := run_append_room (P := Tryz.prog) w 24 ty 52 i0 Tryz.underlying24 hi g2 F.length cap2 cur hh ad G.length c2 (filV G) (by rw [filV_len, hz1]) hnews (oneCell_fils _) hroom (by rw [hz1, hcs, filV_len, ← Nat.add_mul]; exact Nat.mul_le_mul_right _ hroom)
      exact .inl (own_same hr hr2).1
    · have holds : ∀ j u, (filV F)[j]? = some u → w.cell? ((⟨g2, 0, none⟩ : Addr).add j) = some u := World.ownsRow.cells H (g := g2) rfl
      have hr2 := run_append_grow (P := Tryz.prog) w 24 ty 52 i0 _ Tryz.underlying24 hi hz0 ⟨g2, 0, none⟩ F.length cap2 (filV F) (by rw [filV_len, hz1]) holds ad G.length c2 (filV G) (by rw [filV_len, hz1]) hnews (by omega) (by omega) (growslice_fits (by omega) (by rw [hz2]; omega))
      exact .inr (own_same hr hr2).1
theorem wpList_appendFs (w : World) {ops : Array Oper} {rest : List Oper} {o : Oper} {a : Act} {Q : Exit → Act → World → Prop} (hgd : o.guard = none) (s x : Operand)
    (ho : o.op = .call { callee := .builtin .append, args := #[s, x], argTypes := #[24, 24] })
    (base : Nat) (v : Value) (F G : List Fi) (hs : a.eval s = v) (H : w.ownsRow base 52 2 v F.length (filV F)) (xa : Option Addr) (n2 c2 : Nat) (hx : a.eval x = .slice xa n2 c2) (hn : n2 = G.length) (hG : 0 < n2) (hc : FilAt w xa n2 G) (hb : F.length + G.length ≤ 100000) (hbase : base ≤ w.heap.size)
    (h : ∀ a' n' c' w', Hid (n' = (F ++ G).length) → w'.ownsRow base 52 2 (.slice a' n' c') (F ++ G).length (filV (F ++ G)) → w.grownBy w' v.ownBlock → ((Value.slice a' n' c').ownBlock = v.ownBlock ∨ (Value.slice a' n' c').ownBlock = some w.heap.size) → wpList Tryz.prog ops Q rest (a.put o.dst (.slice a' n' c')) w') :
    wpList Tryz.prog ops Q (o :: rest) a w := by
  subst hn
  obtain ⟨a', n', c', w', hr, h1, h2, h3, h4⟩ := run_appendFs w o.type base v F H G xa c2 hG hc hb hbase
  refine wpList_plain hgd fun K hK => ?_
  unfold Oper.wp execOp
  simp only [ho, resolve, invoke, builtin, Sem.run_bind, Sem.run_pure, Result.andThen_ok, List.map_toArray, List.map_cons, List.map_nil, hs, hx, hr]
  exact hK _ _ (h a' n' c' w' h1 h2 h3 h4)

theorem RawsAt.drop {w : World} {b o n : Nat} {R : List Raw4} (H : RawsAt w (some ⟨b, o, none⟩) n R) (j : Nat) (hj : j ≤ n) : RawsAt w (some ⟨b, o + j * 4, none⟩) (n - j) (R.drop j) := by
  rcases H with ⟨h1, h2⟩ | ⟨b2, o2, e, H⟩
  · left
    subst h2
    exact ⟨by omega, by simp⟩
  · cases e
    have hr : ∀ i, raw (R.drop j) i = raw R (j + i) := fun i => by simp [raw, List.getElem?_drop]
    have hx : ∀ i, o + j * 4 + i * 4 = o + (j + i) * 4 := fun i => by rw [Nat.add_mul]; omega
    refine .inr ⟨b, o + j * 4, rfl, by rw [List.length_drop, ← H.sn], by have := H.nb; omega, H.lt, fun i hi => by rw [hr]; exact H.ok _ (by omega), fun i hi => ?_, fun i hi => ?_, fun i hi => ?_, fun i hi => ?_⟩
    · rw [hr, hx]; exact H.c0 _ (by omega)
    · rw [hr, hx]; exact H.c1 _ (by omega)
    · rw [hr, hx]; exact H.c2 _ (by omega)
    · rw [hr, hx]; exact H.c3 _ (by omega)
theorem RawsAt.cut {w : World} {b o n c : Nat} {R : List Raw4} (H : RawsAt w (some ⟨b, o, none⟩) n R) (j : Nat) (hj : j ≤ n) (hc : n ≤ c) : RawsAt w (if c = j then some ⟨b, o, none⟩ else some ⟨b, o + j * 4, none⟩) (n - j) (R.drop j) := by
  split
  · left
    have := H.len
    exact ⟨by omega, List.drop_eq_nil_of_le (by omega)⟩
  · exact H.drop j hj
theorem RawsAt.take {w : World} {a : Option Addr} {n : Nat} {R : List Raw4} (H : RawsAt w a n R) (j : Nat) (hj : j ≤ n) : RawsAt w a j (R.take j) := by
  rcases H with ⟨h1, h2⟩ | ⟨b2, o2, e, H⟩
  · left
    subst h2
    exact ⟨by omega, by simp⟩
  · have hr : ∀ i, i < j → raw (R.take j) i = raw R i := fun i hi => by simp [raw, hi]
    refine .inr ⟨b2, o2, e, by rw [List.length_take, ← H.sn]; omega, by have := H.nb; omega, H.lt, fun i hi => by rw [hr i hi]; exact H.ok _ (by omega), fun i hi => ?_, fun i hi => ?_, fun i hi => ?_, fun i hi => ?_⟩
    · rw [hr i hi]; exact H.c0 _ (by omega)
    · rw [hr i hi]; exact H.c1 _ (by omega)
    · rw [hr i hi]; exact H.c2 _ (by omega)
    · rw [hr i hi]; exact H.c3 _ (by omega)
theorem chain_snoc : ∀ (Gs : List (List Fi)) (m : Nat) (F : List Fi), Chain m Gs → Named F (m + tot Gs) → 1 ≤ F.length → F.length ≤ 2 → Chain m (Gs ++ [F])
  | [], m, F, _, h, h1, h2 => by
    have h' : Named F (m + 0) := h
    rw [Nat.add_zero] at h'
    exact ⟨⟨h', h1, h2⟩, trivial⟩
  | G :: r, m, F, h, hn, h1, h2 => by
    have hn' : Named F (m + (G.length + tot r)) := hn
    rw [← Nat.add_assoc] at hn'
    exact ⟨h.1, chain_snoc r (m + G.length) F h.2 hn' h1 h2⟩
theorem tot_snoc : ∀ (Gs : List (List Fi)) (F : List Fi), tot (Gs ++ [F]) = tot Gs + F.length
  | [], F => by show F.length + 0 = 0 + F.length; omega
  | G :: r, F => by
    show G.length + tot (r ++ [F]) = G.length + tot r + F.length
    rw [tot_snoc r F]; omega
theorem tot_flat : ∀ (Gs : List (List Fi)), Gs.flatten.length = tot Gs
  | [] => rfl
  | G :: r => by rw [List.flatten_cons, List.length_append, tot_flat r]; rfl
/-- While acts and files are laid, one group behind the other. -/
structure AddsI (w0 : World) (va vf : Value) (Gs : List (List Fi)) (w : World) : Prop where
  ex : ∃ L, ActI w w0.heap.size va L ∧ acs L = Gs.map addAc ∧ ∀ q ∈ L, Off vf.ownBlock q.f.a q.f.n
  fil : w.ownsRow w0.heap.size 52 2 vf Gs.flatten.length (filV Gs.flatten)
  ch : Chain 0 Gs
  below : Below w0.heap.size w0 w
theorem own_ne {w : World} {base b2 s s2 n n2 : Nat} {t t2 : TypeId} {v v2 : Value} {xs ys : List Value} (h : w.ownsRow base t s v n xs) (h2 : w.ownsRow b2 t2 s2 v2 n2 ys) (ht : t ≠ t2) : v.ownBlock = none ∨ v.ownBlock ≠ v2.ownBlock := by
  rcases h.2 with ⟨rfl, _⟩ | ⟨g, cap, cur, rfl, _, hh, _⟩
  · exact .inl rfl
  · right
    intro e
    rcases h2.2 with ⟨rfl, _⟩ | ⟨g2, cap2, cur2, rfl, _, hh2, _⟩
    · cases e
    · have e' : g = g2 := Option.some.inj e
      subst e'
      rw [hh] at hh2
      cases hh2
      exact ht rfl
section
variable {w0 w w' w1 : World} {va vf v' : Value} {Gs : List (List Fi)}
theorem AddsI.to (H : AddsI w0 va vf Gs w) (g : Below w.heap.size w w') : AddsI w0 va vf Gs w' := by
  obtain ⟨L, h1, h2, h3⟩ := H.ex
  exact ⟨⟨L, h1.below g, h2, h3⟩, row_below H.fil g, H.ch, bel3 H.below g⟩
/-- One group more. -/
theorem AddsI.step (H : AddsI w0 va vf Gs w) {F : List Fi} {fa : Option Addr} {fn fc B : Nat} (hF : fn ≤ fc ∧ FilAt w fa fn F) (hnew : NewS B fa fn) (hva : ∀ g, va.ownBlock = some g → g < B) (hvf : ∀ g, vf.ownBlock = some g → g < B) (hN : Named F (tot Gs)) (h1 : 1 ≤ F.length) (h2 : F.length ≤ 2) :
    ∃ L, ActI w w0.heap.size va L ∧ L.length = Gs.length ∧ (∀ q ∈ [(⟨addAc F, ⟨fa, fn, fc⟩⟩ : Ax)], AxOk w q ∧ Off va.ownBlock q.f.a q.f.n) ∧
      ∀ v3 w3, ActI w3 w0.heap.size v3 (L ++ [⟨addAc F, ⟨fa, fn, fc⟩⟩]) → w.grownBy w3 va.ownBlock →
        (w3.ownsRow w0.heap.size 52 2 vf Gs.flatten.length (filV Gs.flatten) ∧ FilAt w3 fa fn F ∧ w0.heap.size ≤ w3.heap.size) ∧
        ∀ v4 w4, w4.ownsRow w0.heap.size 52 2 v4 (Gs.flatten ++ F).length (filV (Gs.flatten ++ F)) → w3.grownBy w4 vf.ownBlock → (v4.ownBlock = vf.ownBlock ∨ v4.ownBlock = some w3.heap.size) → AddsI w0 v3 v4 (Gs ++ [F]) w4 := by
  obtain ⟨L, a1, a2, a3⟩ := H.ex
  have hb := H.below
  refine ⟨L, a1, ?_, fun q hq => ?_, fun v3 w3 i3 g3 => ⟨⟨?_, ?_, ?_⟩, fun v4 w4 r4 g4 e4 => ?_⟩⟩
  · have := congrArg List.length a2
    rw [acs_len, List.length_map] at this
    exact this
  · rw [List.mem_singleton] at hq
    subst hq
    exact ⟨⟨hF, Nat.zero_le _⟩, hnew.off hva⟩
  · exact World.ownsRow.kept H.fil g3 (own_ne H.fil a1.own (by decide))
  · exact hF.2.grown (hnew.off hva) g3
  · exact Nat.le_trans hb.size g3.size
  · have r3 := World.ownsRow.kept H.fil g3 (own_ne H.fil a1.own (by decide))
    have offN : Off vf.ownBlock fa fn := hnew.off hvf
    have offA : ∀ q ∈ L ++ [(⟨addAc F, ⟨fa, fn, fc⟩⟩ : Ax)], Off vf.ownBlock q.f.a q.f.n := fun q hq => by
      rcases List.mem_append.1 hq with h | h
      · exact a3 q h
      · rw [List.mem_singleton] at h; subst h; exact offN
    have hfl : (Gs ++ [F]).flatten = Gs.flatten ++ F := by simp
    refine ⟨⟨L ++ [⟨addAc F, ⟨fa, fn, fc⟩⟩], ⟨World.ownsRow.kept i3.own g4 (own_ne i3.own r3 (by decide)), fun q hq => ⟨(i3.ok q hq).1.grown (offA q hq) g4, (i3.ok q hq).2⟩⟩, ?_, fun q hq => ?_⟩, by rw [hfl]; exact r4, chain_snoc Gs 0 F H.ch (by rw [Nat.zero_add]; exact hN) h1 h2, ?_⟩
    · rw [acs_app, a2, List.map_append]
      rfl
    · rcases e4 with e | e
      · rw [e]; exact offA q hq
      · rw [e]; exact (i3.ok q hq).1.1.2.off (Nat.le_refl _)
    · have z3 := hb.grown g3 hb.size (fun g e => (World.ownsRow.lt a1.own g e).1)
      exact z3.grown g4 z3.size (fun g e => (World.ownsRow.lt r3 g e).1)
end
theorem chain_len : ∀ (Gs : List (List Fi)) (m : Nat), Chain m Gs → Gs.length ≤ tot Gs
  | [], _, _ => Nat.le_refl _
  | F :: r, m, h => by
    have := chain_len r (m + F.length) h.2
    have h1 := h.1.2.1
    show r.length + 1 ≤ F.length + tot r
    omega
theorem AddsI.lt {w0 w : World} {va vf : Value} {Gs : List (List Fi)} (H : AddsI w0 va vf Gs w) : (∀ g, va.ownBlock = some g → g < w.heap.size) ∧ ∀ g, vf.ownBlock = some g → g < w.heap.size := by
  obtain ⟨L, a1, _⟩ := H.ex
  exact ⟨fun g e => (World.ownsRow.lt a1.own g e).2, fun g e => (World.ownsRow.lt H.fil g e).2⟩
theorem act_made (w : World) (q : Ax) : ∀ j u, (axV [q])[j]? = some u → (w.alloc (.cells (axC q).toArray 29)).cell? ((⟨w.heap.size, 0, none⟩ : Addr).add j) = some u := by
  intro j u hj
  rw [Addr.add_lit, Nat.zero_add]
  have : axV [q] = axC q := by simp [axV]
  rw [this] at hj
  exact (Own.made w 29 (axC q)).cell hj
/-- Acts that add files, and all files, that come out of a call. -/
def OutAds (w : World) (most n : Nat) (e : Ending) (w' : World) : Prop := ∃ a m c b k d Gs L, e = .returned (.tuple #[.slice a m c, .slice b k d]) ∧ (ActI w' w.heap.size (.slice a m c) L ∧ acs L = Gs.map addAc) ∧ (k ≤ d ∧ FilAt w' b k Gs.flatten) ∧ (Chain 0 Gs ∧ tot Gs ≤ most ∧ (0 < n → 0 < Gs.length)) ∧ Below w.heap.size w w'
theorem AddsI.out {w0 w : World} {a b : Option Addr} {m c k d most n : Nat} {Gs : List (List Fi)} (H : AddsI w0 (.slice a m c) (.slice b k d) Gs w) (hm : tot Gs ≤ most) (h10 : most ≤ 10) (hn : 0 < n → 0 < Gs.length) : OutAds w0 most n (.returned (.tuple #[.slice a m c, .slice b k d])) w := by
  obtain ⟨L, a1, a2, a3⟩ := H.ex
  have hf := tot_flat Gs
  have hr := filAt_row H.fil (by omega) (fun i hi => by
    have hi' : Gs.flatten[i] ∈ Gs.flatten := List.getElem_mem hi
    rw [fi_lt Gs.flatten i hi]
    obtain ⟨G, hG, hx⟩ := List.mem_flatten.1 hi'
    obtain ⟨j, hj, rfl⟩ := List.getElem_of_mem hG
    obtain ⟨q, _, _, q3, q4⟩ := chain_names Gs 0 H.ch j Gs.flatten[i] (by simpa [grp, hj] using hx)
    rw [q3]
    exact ⟨by show (str _).size ≤ _; rw [str_size]; unfold maxLen; simp, by unfold maxLen; omega⟩)
  refine ⟨a, m, c, b, k, d, Gs, L, rfl, ⟨a1, a2⟩, ⟨hr.2.1, ?_⟩, ⟨H.ch, hm, hn⟩, H.below⟩
  exact hr.2.2

set_option maxHeartbeats 3200000 in
set_option maxRecDepth 8000 in
theorem adds_any (a : Option Addr) (n c : Nat) (R : List Raw4) (most : Nat) (w : World) (H : RawsAt w a n R) (hc : n ≤ c) (hp : Pow w) (hm : most ≤ 10) (he : most % 2 = 0) (h0 : 0 < most) :
    Calls Tryz.prog 7 #[.slice a n c, .int .i64 most] w (OutAds w most n) := by
  have hnb := H.nb
  unfold maxLen at hnb
  have HP := hid hp
  have J0 : Hid (AddsI w (.slice none 0 0) (.slice none 0 0) [] w) := ⟨⟨[], actI_nil _ _, rfl, fun _ h => by cases h⟩, ⟨rfl, .inl ⟨rfl, rfl⟩⟩, trivial, Below.refl _ _⟩
  have HR := hid (And.intro H (And.intro hc H.len))
  clear H hp hc
  go_enter Tryz.func7, Tryz.ntmps7
  go_wp2_with fail
  go_loopw [0, 6, 7] (fun l va vf wr => ∃ (a0 : Option Addr) (n0 c0 : Nat) (xa : Option Addr) (xm xc : Nat) (xb : Option Addr) (k kd : Nat) (Gs : List (List Fi)), l = .slice a0 n0 c0 ∧ va = .slice xa xm xc ∧ vf = .slice xb k kd ∧ n0 + k = n ∧ Hid (n0 ≤ c0 ∧ RawsAt w a0 n0 (R.drop k)) ∧ k ≤ most ∧ (k % 2 = 0 ∨ n0 = 0) ∧ Hid (k = tot Gs ∧ (n0 = n ∨ 0 < Gs.length)) ∧ Hid (AddsI w (.slice xa xm xc) (.slice xb k kd) Gs wr)) (fun l _ _ _ => match l with | .slice _ n0 _ => n0 | _ => 0)
  case atStart => exact ⟨a, n, c, none, 0, 0, none, 0, 0, [], rfl, rfl, rfl, rfl, ⟨HR.out.2.1, HR.out.1⟩, Nat.zero_le _, .inl rfl, ⟨rfl, .inl rfl⟩, J0.out⟩
  case round =>
    obtain ⟨a0, n0, c0, xa, xm, xc, xb, k, kd, Gs, rfl, rfl, rfl, hnk, HL, hkm, hk2, HT, HI⟩ := hrel
    clear J0
    by_cases g1 : k < most
    · have g1' : (k : Int) < most := by omega
      by_cases g2 : 0 < n0
      · have g2' : (0 : Int) < n0 := by omega
        have e1 : decide ((k : Int) < most) = true := decide_eq_true g1'
        have e2 : decide (0 < n0) = true := decide_eq_true g2
        have k10 : k + 2 ≤ 10 := by omega
        obtain ⟨b0, o0, rfl⟩ : ∃ b0 o0, a0 = some ⟨b0, o0, none⟩ := by
          rcases HL.out.2 with ⟨h, _⟩ | ⟨b, o, e, _⟩
          · omega
          · exact ⟨b, o, e⟩
        have hlc := HL.out.1
        have CF := hid (files_new (some ⟨b0, o0, none⟩) n0 c0 (R.drop k) k 2 wr (HL.out.2.below HI.out.below) (HP.out.below HI.out.below) k10)
        go_wp2_with fail
        refine CF.out.mono ?_
        rintro _ w1 ⟨fa, fn, fc, F, rfl, ⟨hfn, hfc, hF⟩, ⟨hNm, hFl⟩, hNew, g3⟩
        have hf1 : fn ≤ n0 := by omega
        have hf2 : 1 ≤ fn := by omega
        have hf3 : fn ≤ 2 := by omega
        have hf4 : fn = 2 ∨ n0 - fn = 0 := by omega
        obtain ⟨V2, hV2⟩ : ∃ V2, V2 = w1.alloc (.cells #[.int .i64 1, .slice fa fn fc, .string ⟨#[]⟩, .int .i64 0, .int .i64 0, .int .i64 0, .int .i64 0] 29) := ⟨_, rfl⟩
        have b2 : Below w1.heap.size w1 V2 := by rw [hV2]; exact (Below.refl _ w1).alloc (Nat.le_refl _) _
        have hcell : ∀ j u, (axV [(⟨addAc F, ⟨fa, fn, fc⟩⟩ : Ax)])[j]? = some u → V2.cell? ((⟨w1.heap.size, 0, none⟩ : Addr).add j) = some u := by rw [hV2]; exact act_made w1 ⟨addAc F, ⟨fa, fn, fc⟩⟩
        obtain ⟨L, i2, hLl, okq, nxt⟩ := ((HI.out.to g3).to b2).step ⟨hfc, hF.below b2⟩ hNew HI.out.lt.1 HI.out.lt.2 (by rw [← HT.out.1]; exact hNm) (by omega) (by omega)
        have hcl := chain_len Gs 0 HI.out.ch
        have htk := HT.out.1
        have S := hid (And.intro i2 (And.intro okq (And.intro hcell (And.intro (show L.length ≤ 10 by omega) (And.intro (tot_flat Gs) (Nat.le_trans HI.out.below.size (Nat.le_trans g3.size b2.size)))))))
        have NX := hid nxt
        have HL2 := hid (HL.out.2.cut fn hf1 hlc)
        have HFl := hid hfn
        clear hF hNm hFl hNew g3 b2 i2 okq hcell nxt hLl hcl CF
        rw [List.drop_drop] at HL2
        have k10' := hid (And.intro htk k10)
        clear htk k10 hfn HI
        go_upto_region 5 with fail
        go_upto_region 6 with fail
        go_wp2_with (at_builtin; (first
          | (refine wpList_appendX _ rfl (.tmp 26) (.tmp 29) rfl w.heap.size (.slice xa xm xc) L [⟨addAc F, ⟨fa, fn, fc⟩⟩] rfl (by rw [← hV2]; exact S.out.1) (some ⟨w1.heap.size, 0, none⟩) 1 1 rfl rfl (.inr ⟨_, rfl, by rw [← hV2]; exact S.out.2.2.1⟩) (by rw [← hV2]; exact S.out.2.1) (by have := S.out.2.2.2.1; simp; omega) (by rw [← hV2]; exact S.out.2.2.2.2.2) ?_; intro a3 n3 c3 w3 hn3 hI3 hg3; rw [← hV2] at hg3; (have N3 := hid (NX.out _ _ hI3 hg3)); clear hI3 hg3)
          | (refine wpList_appendFs _ rfl (.tmp 31) (.tmp 32) rfl w.heap.size (.slice xb k kd) Gs.flatten F rfl N3.out.1.1 fa fn fc rfl HFl.out (by omega) N3.out.1.2.1 (by have := S.out.2.2.2.2.1; have := HFl.out; have := k10'.out; omega) N3.out.1.2.2 ?_; intro a4 n4 c4 w4 hn4 ho4 hg4 hb4; (have J4 := hid (N3.out.2 _ _ ho4 hg4 hb4)); clear ho4 hg4 hb4)))
        have hn4' : n4 = k + fn := by rw [hn4.out, List.length_append, S.out.2.2.2.2.1, ← k10'.out.1, ← HFl.out]
        go_roundw
        case rel => exact ⟨_, n0 - fn, c0 - fn, a3, n3, c3, a4, k + fn, c4, Gs ++ [F], by go_num, rfl, by rw [hn4'], by omega, ⟨by omega, HL2.out⟩, by omega, by omega, ⟨by rw [tot_snoc, ← k10'.out.1, ← HFl.out], .inr (by simp)⟩, by rw [← hn4']; exact J4.out⟩
        case measure => show n0 - fn < n0; omega
      · have e1 : decide ((k : Int) < most) = true := decide_eq_true g1'
        have e2 : decide (0 < n0) = false := decide_eq_false g2
        have FIN := hid (HI.out.out (most := most) (n := n) (by rw [← HT.out.1]; exact hkm) hm (fun h => by rcases HT.out.2 with q | q; omega; exact q))
        clear HI HL
        go_wp2
        go_ret2
        exact FIN.out
    · have g1' : ¬ (k : Int) < most := by omega
      have e1 : decide ((k : Int) < most) = false := decide_eq_false g1'
      have FIN := hid (HI.out.out (most := most) (n := n) (by rw [← HT.out.1]; exact hkm) hm (fun h => by rcases HT.out.2 with q | q; have := HT.out.1; omega; exact q))
      clear HI HL
      go_wp2
      go_ret2
      exact FIN.out
end Go.Proofs.YtahoagbaadnihabGreatDoor

/- What Gets answers; Hurts as acts of the call's own. -/
namespace Go.Proofs.YtahoagbaadnihabGreatDoor
open Go.RowKit Go.Lib

def hurtAx (x : Hact) : Ax := ⟨hurtAc x, nilS⟩
theorem axV_hurt (L : List Hact) : axV (L.map hurtAx) = actsV L := by
  rw [axV, actsV, List.flatMap_map]
  rfl
theorem acs_hurt (L : List Hact) : acs (L.map hurtAx) = L.map hurtAc := by
  rw [acs, List.map_map]
  rfl
theorem ActI.down {w : World} {b b2 : Nat} {v : Value} {L : List Ax} (h : ActI w b v L) (hb : b2 ≤ b) : ActI w b2 v L := by
  refine ⟨⟨h.own.1, ?_⟩, h.ok⟩
  rcases h.own.2 with e | ⟨g, cap, cur, e, hbg, r⟩
  · exact .inl e
  · exact .inr ⟨g, cap, cur, e, Nat.le_trans hb hbg, r⟩
theorem filAt_nil (w : World) : FilAt w none 0 [] := ⟨rfl, Nat.zero_le _, fun _ h => absurd h (Nat.not_lt_zero _), fun _ h => absurd h (Nat.not_lt_zero _)⟩
theorem axOk_nil {w : World} {x : Ac} (hf : x.files = []) (hn : x.name.size ≤ maxLen) : AxOk w ⟨x, nilS⟩ := ⟨⟨Nat.le_refl _, by rw [hf]; exact filAt_nil w⟩, hn⟩
theorem nilS_off {x : Ac} (row : Option Nat) : Off row (⟨x, nilS⟩ : Ax).f.a (⟨x, nilS⟩ : Ax).f.n := fun h => absurd h (Nat.not_lt_zero _)
/-- Acts that come out of a call: a row of its own. -/
def OutX (w : World) (l : List Ac) (e : Ending) (w' : World) : Prop := ∃ a n c L, e = .returned (.slice a n c) ∧ ActI w' w.heap.size (.slice a n c) L ∧ acs L = l ∧ Below w.heap.size w w'
theorem hurts_out (a : Option Addr) (n c : Nat) (R : List Raw4) (K N most : Nat) (w : World) (H : RawsAt w a n R) (hK : K < 3) (h1 : 16 ≤ N) (h2 : N ≤ 64) (hmost : most ≤ 100) :
    Calls Tryz.prog 15 #[.slice a n c, .int .i64 K, .int .i64 N, .int .i64 most] w (OutX w ((hurtsOf R K N most).map hurtAc)) := by
  refine (hurts_own a n c R K N most w H hK h1 h2 hmost).mono ?_
  rintro _ w' ⟨x, m, cap, rfl, _, h3, h4⟩
  refine ⟨x, m, cap, (hurtsOf R K N most).map hurtAx, rfl, ActI.down (b := w.heap.size + 1) ⟨by rw [List.length_map, axV_hurt]; exact h3, fun q hq => ?_⟩ (Nat.le_succ _), acs_hurt _, h4⟩
  obtain ⟨y, _, rfl⟩ := List.mem_map.1 hq
  exact ⟨axOk_nil rfl (Nat.zero_le _), nilS_off _⟩
/-- While gets are laid. -/
structure GetsI (w0 : World) (F : List Fi) (k : Nat) (v : Value) (w : World) : Prop where
  ex : ∃ L, ActI w w0.heap.size v L ∧ acs L = (F.take k).map getAc ∧ L.length = k
  below : Below w0.heap.size w0 w
section
variable {w0 w w' : World} {F : List Fi} {k : Nat} {v v' : Value}
theorem GetsI.to (H : GetsI w0 F k v w) (g : Below w.heap.size w w') : GetsI w0 F k v w' := by
  obtain ⟨L, h1, h2, h3⟩ := H.ex
  exact ⟨⟨L, h1.below g, h2, h3⟩, bel3 H.below g⟩
theorem GetsI.step (H : GetsI w0 F k v w) (hk : k < F.length) (hs : (fi F k).s.size ≤ maxLen) :
    ∃ L, ActI w w0.heap.size v L ∧ L.length = k ∧ (∀ q ∈ [(⟨getAc (fi F k), nilS⟩ : Ax)], AxOk w q ∧ Off v.ownBlock q.f.a q.f.n) ∧
      ∀ v3 w3, ActI w3 w0.heap.size v3 (L ++ [⟨getAc (fi F k), nilS⟩]) → w.grownBy w3 v.ownBlock → GetsI w0 F (k + 1) v3 w3 := by
  obtain ⟨L, h1, h2, h3⟩ := H.ex
  refine ⟨L, h1, h3, fun q hq => ?_, fun v3 w3 i3 g3 => ⟨⟨_, i3, ?_, ?_⟩, H.below.grown g3 H.below.size (fun g e => (World.ownsRow.lt h1.own g e).1)⟩⟩
  · rw [List.mem_singleton] at hq
    subst hq
    exact ⟨axOk_nil rfl hs, nilS_off _⟩
  · rw [acs_app, h2, List.take_add_one, List.map_append, List.getElem?_eq_getElem hk, fi_lt F k hk]
    rfl
  · rw [List.length_append, h3]; rfl
end
set_option maxHeartbeats 3200000 in
set_option maxRecDepth 8000 in
theorem gets_any (a : Option Addr) (n c : Nat) (F : List Fi) (w : World) (H : FilAt w a n F) (hn : n ≤ 1000) :
    Calls Tryz.prog 16 #[.slice a n c] w (OutX w (F.map getAc)) := by
  have J0 : Hid (GetsI w F 0 (.slice none 0 0) w) := ⟨⟨[], actI_nil _ _, rfl, rfl⟩, Below.refl _ _⟩
  have HF := hid H
  clear H
  go_enter Tryz.func16, Tryz.ntmps16
  go_wp2_with fail
  go_loopw [3, 8] (fun v i wr => ∃ (xa : Option Addr) (xm xc k : Nat), v = .slice xa xm xc ∧ i = .int .i64 k ∧ k ≤ n ∧ Hid (GetsI w F k (.slice xa xm xc) wr)) (fun _ i _ => n - (intOf i).toNat)
  case atStart => exact ⟨none, 0, 0, 0, rfl, rfl, Nat.zero_le _, J0.out⟩
  case round =>
    obtain ⟨xa, xm, xc, k, rfl, rfl, hkn, HI⟩ := hrel
    clear J0
    by_cases hlt : k < n
    · have hlt' : (k : Int) < n := by omega
      have e1 : decide ((k : Int) < n) = true := decide_eq_true hlt'
      have hkF : k < F.length := by rw [← HF.out.sn]; exact hlt
      obtain ⟨b0, o0, rfl, hb0, c0, c1⟩ := (HF.out.below HI.out.below).c k hlt
      have hnm := (HF.out.nm k hlt).1
      obtain ⟨V, hV⟩ : ∃ V, V = wr.alloc (.cells #[.string (fi F k).s, .string (fi F k).d] 52) := ⟨_, rfl⟩
      obtain ⟨V2, hV2⟩ : ∃ V2, V2 = V.alloc (.cells #[.int .i64 2, .slice none 0 0, .string (fi F k).s, .int .i64 0, .int .i64 0, .int .i64 0, .int .i64 0] 29) := ⟨_, rfl⟩
      have bV : Below wr.heap.size wr V := by rw [hV]; exact (Below.refl _ wr).alloc (Nat.le_refl _) _
      have bV2 : Below V.heap.size V V2 := by rw [hV2]; exact (Below.refl _ V).alloc (Nat.le_refl _) _
      have hcell : ∀ j u, (axV [(⟨getAc (fi F k), nilS⟩ : Ax)])[j]? = some u → V2.cell? ((⟨V.heap.size, 0, none⟩ : Addr).add j) = some u := by rw [hV2]; exact act_made V ⟨getAc (fi F k), nilS⟩
      obtain ⟨L, i2, hLl, okq, nxt⟩ := ((HI.out.to bV).to bV2).step hkF hnm
      have S := hid (And.intro i2 (And.intro okq (And.intro hcell (And.intro (show L.length ≤ 1000 by omega) (Nat.le_trans (Nat.le_trans HI.out.below.size bV.size) bV2.size)))))
      have NX := hid nxt
      have x0 : V.cell? ⟨wr.heap.size, 0, none⟩ = some (.string (fi F k).s) := by rw [hV]; simp [go_sem]
      clear bV bV2 hcell i2 hLl okq nxt HI hnm
      go_upto_region 5 with fail
      rw [← hV]
      clear hV c0 c1
      go_wp2_with (at_builtin; (refine wpList_appendX _ rfl (.tmp 12) (.tmp 16) rfl w.heap.size (.slice xa xm xc) L [⟨getAc (fi F k), nilS⟩] rfl (by rw [← hV2]; exact S.out.1) (some ⟨V.heap.size, 0, none⟩) 1 1 rfl rfl (.inr ⟨_, rfl, by rw [← hV2]; exact S.out.2.2.1⟩) (by rw [← hV2]; exact S.out.2.1) (by have := S.out.2.2.2.1; simp; omega) (by rw [← hV2]; exact S.out.2.2.2.2) ?_; intro a3 n3 c3 w3 hn3 hI3 hg3; rw [← hV2] at hg3; (have N3 := hid (NX.out _ _ hI3 hg3)); clear hI3 hg3))
      go_roundw
      case rel => exact ⟨a3, n3, c3, k + 1, rfl, by go_num, by omega, N3.out⟩
      case measure => simp [intOf]; omega
    · have hlt' : ¬ (k : Int) < n := by omega
      have e1 : decide ((k : Int) < n) = false := decide_eq_false hlt'
      obtain ⟨L, h1, h2, h3⟩ := HI.out.ex
      have FIN := hid (show OutX w (F.map getAc) (.returned (.slice xa xm xc)) wr from ⟨xa, xm, xc, L, rfl, h1, by rw [h2, List.take_of_length_le (by have := HF.out.sn; omega)], HI.out.below⟩)
      clear HI h1 h2 h3
      go_wp2
      go_ret
      exact FIN.out
end Go.Proofs.YtahoagbaadnihabGreatDoor

/- slices.Concat at acts. -/
namespace Go.Proofs.YtahoagbaadnihabGreatDoor
open Go.RowKit Go.Lib

theorem actAt_src {w : World} {a : Option Addr} {n : Nat} {L : List Ax} (h : ActAt w a n L) : L = [] ∨ ∃ ad, a = some ad ∧ ∀ j u, (axV L)[j]? = some u → w.cell? (ad.add j) = some u := by
  cases L with
  | nil => exact .inl rfl
  | cons q r =>
    right
    obtain ⟨b, o, e, _, _⟩ := h.row 0 (.int .i64 q.x.kind) rfl
    refine ⟨_, e, fun j u hj => ?_⟩
    obtain ⟨b2, o2, e2, _, c⟩ := h.row j u hj
    rw [e] at e2
    cases e2
    rw [Addr.add_lit]
    exact c
theorem actI_room (w : World) (n : Nat) (hn : n ≤ 100000) : ActI (w.drew.alloc (.cells (Builtin.zeroCells (Value.agg #[.int .i64 0, .slice none 0 0, .string ⟨#[]⟩, .int .i64 0, .int .i64 0, .int .i64 0, .int .i64 0]).cells n ++ Builtin.zeroCells (Value.agg #[.int .i64 0, .slice none 0 0, .string ⟨#[]⟩, .int .i64 0, .int .i64 0, .int .i64 0, .int .i64 0]).cells (grownCap w n 0 29 - n)) 29)) w.heap.size (.slice (some ⟨w.heap.size, 0, none⟩) 0 (grownCap w n 0 29)) [] := by
  have hge := grownCap_ge w n 0 29
  have hcm := grownCap_le_maxLen w n 0 29 (by unfold maxLen; omega)
  refine ⟨⟨by simp [axV], .inr ⟨w.heap.size, _, _, rfl, Nat.le_refl _, heap_alloc_new w.drew _, Nat.zero_le _, hcm, ?_, by simp [axV]⟩⟩, fun _ h => by cases h⟩
  have hs : (Value.agg #[.int .i64 0, .slice none 0 0, .string ⟨#[]⟩, .int .i64 0, .int .i64 0, .int .i64 0, .int .i64 0]).cells.size = 7 := rfl
  rw [Array.size_append, size_zeroCells, size_zeroCells, hs]
  omega
set_option maxHeartbeats 1600000 in
set_option maxRecDepth 4000 in
theorem grow_any (n : Nat) (w : World) (hn : n ≤ 100000) :
    Calls Tryz.prog 23 #[.slice none 0 0, .int .i64 n] w (OutX w []) := by
  obtain ⟨i0, hi, hz0, hz1, hz2⟩ := info_parts info_acts
  by_cases h0 : n = 0
  · subst h0
    have FIN : Hid (OutX w [] (.returned (.slice none 0 0)) w) := ⟨none, 0, 0, [], rfl, actI_nil _ _, rfl, Below.refl _ _⟩
    clear hi hz0 hz1 hz2
    go_enter Tryz.func23, Tryz.ntmps23
    go_wp2
    go_ret
    exact FIN.out
  · have hr := run_append_nil_zeros (P := Tryz.prog) w 23 3 23 29 i0 _ .i64 .i64 Tryz.underlying23 Tryz.underlying3 hi hz0 n (by omega) (by rw [hz1]; decide) (by omega) (by rw [hz2]; omega)
    have hr2 := actI_room w n hn
    have hbel : Below w.heap.size w (w.drew.alloc (.cells (Builtin.zeroCells (Value.agg #[.int .i64 0, .slice none 0 0, .string ⟨#[]⟩, .int .i64 0, .int .i64 0, .int .i64 0, .int .i64 0]).cells n ++ Builtin.zeroCells (Value.agg #[.int .i64 0, .slice none 0 0, .string ⟨#[]⟩, .int .i64 0, .int .i64 0, .int .i64 0, .int .i64 0]).cells (grownCap w n 0 29 - n)) 29)) := ⟨rfl, rfl, rfl, by simp, fun k hk => heap_alloc_old w.drew _ hk⟩
    obtain ⟨V, hV⟩ : ∃ V, V = w.drew.alloc (.cells (Builtin.zeroCells (Value.agg #[.int .i64 0, .slice none 0 0, .string ⟨#[]⟩, .int .i64 0, .int .i64 0, .int .i64 0, .int .i64 0]).cells n ++ Builtin.zeroCells (Value.agg #[.int .i64 0, .slice none 0 0, .string ⟨#[]⟩, .int .i64 0, .int .i64 0, .int .i64 0, .int .i64 0]).cells (grownCap w n 0 29 - n)) 29) := ⟨_, rfl⟩
    obtain ⟨cap, hcap⟩ : ∃ cap, cap = grownCap w n 0 29 := ⟨_, rfl⟩
    rw [← hV, ← hcap] at hr hr2
    rw [← hV] at hbel
    have hcn : n ≤ cap := by rw [hcap]; exact grownCap_ge w n 0 29
    have FIN : Hid (OutX w [] (.returned (.slice (some ⟨w.heap.size, 0, none⟩) 0 cap)) V) := ⟨_, 0, cap, [], rfl, hr2, rfl, hbel⟩
    have HR := hid hr
    have hpos : (0 : Int) < n := by omega
    clear hi hz0 hz1 hz2 hr hr2 hbel hV hcap
    go_enter Tryz.func23, Tryz.ntmps23
    go_wp2_with (at_builtin; refine Lib.wpList_append_run _ rfl _ _ _ _ rfl _ _ rfl rfl _ _ HR.out ?_)
    go_ret
    exact FIN.out

/-- Acts that are put together. -/
structure Part where
  h : Hs
  L : List Ax
def partV (q : Part) : Value := .slice q.h.a q.h.n q.h.c
def partL (P : List Part) : List Ac := P.flatMap fun q => acs q.L
def PartOk (w : World) (q : Part) : Prop := q.h.n ≤ q.h.c ∧ ActAt w q.h.a q.h.n q.L
def cnt (P : List Part) : Nat := (partL P).length
theorem partL_snoc (P : List Part) (k : Nat) (hk : k < P.length) : partL (P.take (k + 1)) = partL (P.take k) ++ acs (P[k]).L := by
  have e : P.take (k + 1) = P.take k ++ [P[k]] := by
    rw [List.take_add_one, List.getElem?_eq_getElem hk]
    rfl
  rw [e, partL, List.flatMap_append, List.flatMap_cons, List.flatMap_nil, List.append_nil]
  rfl
theorem many_snoc (P : List Part) (k : Nat) (hk : k < P.length) : cnt (P.take (k + 1)) = cnt (P.take k) + (P[k]).L.length := by
  rw [cnt, partL_snoc P k hk, List.length_append, acs_len]
  rfl
theorem many_le (P : List Part) (k : Nat) : cnt (P.take k) ≤ cnt P := by
  have h : partL P = partL (P.take k) ++ partL (P.drop k) := by rw [partL, partL, partL, ← List.flatMap_append, List.take_append_drop]
  rw [cnt, cnt, h, List.length_append]
  omega
theorem PartOk.below {w w' : World} {q : Part} (h : PartOk w q) (g : Below w.heap.size w w') : PartOk w' q := ⟨h.1, h.2.below g⟩
/-- While it goes on. -/
structure CcI (w0 : World) (P : List Part) (k : Nat) (v : Value) (w : World) : Prop where
  ex : ∃ L, ActI w w0.heap.size v L ∧ acs L = partL (P.take k)
  below : Below w0.heap.size w0 w
theorem CcI.step {w0 w : World} {P : List Part} {k : Nat} {v : Value} (H : CcI w0 P k v w) (hk : k < P.length) (hq : PartOk w0 P[k]) :
    ∃ L, ActI w w0.heap.size v L ∧ L.length = cnt (P.take k) ∧ (∀ q ∈ (P[k]).L, AxOk w q ∧ Off v.ownBlock q.f.a q.f.n) ∧
      ∀ v3 w3, ActI w3 w0.heap.size v3 (L ++ (P[k]).L) → w.grownBy w3 v.ownBlock → CcI w0 P (k + 1) v3 w3 := by
  obtain ⟨L, h1, h2⟩ := H.ex
  refine ⟨L, h1, by rw [cnt, ← h2, acs_len], fun q hm => ⟨((hq.below H.below).2.ok q hm), ?_⟩, fun v3 w3 i3 g3 => ⟨⟨_, i3, ?_⟩, H.below.grown g3 H.below.size (fun g e => (World.ownsRow.lt h1.own g e).1)⟩⟩
  · cases e : v.ownBlock with
    | none => exact off_none _ _
    | some g => exact (hq.2.ok q hm).1.2.off (World.ownsRow.lt h1.own g e).1
  · rw [acs_app, h2, partL_snoc P k hk]
set_option maxHeartbeats 3200000 in
set_option maxRecDepth 8000 in
theorem concat_any (a : Option Addr) (n c : Nat) (P : List Part) (w : World) (H : RowAt w a (P.map partV)) (hn : n = P.length) (hp : P.length ≤ 100) (hok : ∀ q ∈ P, PartOk w q) (hm : cnt P ≤ 1000) :
    Calls Tryz.prog 8 #[.slice a n c] w (OutX w (partL P)) := by
  have HH := hid (And.intro H (And.intro hn hok))
  have HM := hid (fun k => Nat.le_trans (many_le P k) hm)
  have hnb : n ≤ 100 := by omega
  clear H hn hp hok hm
  go_enter Tryz.func8, Tryz.ntmps8
  go_wp2_with fail
  go_loopw [3, 11] (fun s i wr => ∃ k m : Nat, i = .int .i64 k ∧ s = .int .i64 m ∧ k ≤ n ∧ m ≤ 1000 ∧ Hid (m = cnt (P.take k)) ∧ wr = w) (fun _ i _ => n - (intOf i).toNat)
  case atStart => exact ⟨0, 0, rfl, rfl, Nat.zero_le _, Nat.zero_le _, rfl, rfl⟩
  case round =>
    obtain ⟨k, m, rfl, rfl, hkn, hm1, HK, hwr⟩ := hrel
    have hwr2 := hwr.symm
    subst hwr2
    clear hwr
    by_cases hlt : k < n
    · have hlt' : (k : Int) < n := by omega
      have hkP : k < P.length := by rw [← HH.out.2.1]; exact hlt
      obtain ⟨b0, o0, rfl, hb0, c0⟩ := HH.out.1 k (partV P[k]) (by simp [hkP])
      have hq := HH.out.2.2 P[k] (List.getElem_mem hkP)
      have hqn := hq.2.sn
      have hm2 : m + (P[k]).h.n ≤ 1000 := by have := HM.out (k + 1); rw [many_snoc P k hkP, ← HK.out, ← hqn] at this; omega
      have HK2 : Hid (m + (P[k]).h.n = cnt (P.take (k + 1))) := by rw [many_snoc P k hkP, ← HK.out, ← hqn]; exact rfl
      rw [partV] at c0
      clear hq hqn HK HH HM
      generalize (P[k]).h = hh at c0 hm2 HK2
      obtain ⟨xa, xn, xc⟩ := hh
      simp only at c0 hm2 HK2
      have hneg : ¬ ((m : Int) + xn < 0) := by omega
      go_wp2
      go_roundw
      case rel => exact ⟨k + 1, m + xn, by go_num, by go_num, by omega, hm2, HK2, trivial⟩
      case measure => simp [intOf]; omega
    · obtain rfl : n = k := by omega
      have C1 := hid (grow_any m w (by omega))
      clear HK
      go_wp2_with fail
      refine C1.out.mono ?_
      rintro _ w1 ⟨va, vn, vc, L0, rfl, hL0, hL1, hb1⟩
      have J0 : Hid (CcI w P 0 (.slice va vn vc) w1) := ⟨⟨L0, hL0, hL1⟩, hb1⟩
      clear hL0 hL1 hb1 C1
      go_wp2_with fail
      go_loopw [6, 27] (fun v i wr => ∃ (xa : Option Addr) (xm xc k : Nat), v = .slice xa xm xc ∧ i = .int .i64 k ∧ k ≤ n ∧ Hid (CcI w P k (.slice xa xm xc) wr)) (fun _ i _ => n - (intOf i).toNat)
      case atStart => exact ⟨va, vn, vc, 0, rfl, rfl, Nat.zero_le _, J0.out⟩
      case round =>
        obtain ⟨xa, xm, xc, k, rfl, rfl, hkn, HI⟩ := hrel
        clear J0
        by_cases hlt : k < n
        · have hlt' : (k : Int) < n := by omega
          have hkP : k < P.length := by rw [← HH.out.2.1]; exact hlt
          obtain ⟨b0, o0, rfl, hb0, c0⟩ := (HH.out.1.below HI.out.below) k (partV P[k]) (by simp [hkP])
          have hq := HH.out.2.2 P[k] (List.getElem_mem hkP)
          have hqn := hq.2.sn
          obtain ⟨L, i2, hLl, okq, nxt⟩ := HI.out.step hkP hq
          have hm2 : L.length + (P[k]).L.length ≤ 1000 := by have := HM.out (k + 1); rw [many_snoc P k hkP, ← hLl] at this; omega
          have S := hid (And.intro i2 (And.intro okq (And.intro (actAt_src (hq.below HI.out.below).2) (And.intro hm2 (And.intro hqn HI.out.below.size)))))
          have NX := hid nxt
          rw [partV] at c0
          clear hq hqn HI i2 okq nxt hm2 hLl
          go_wp2_with (at_builtin; (refine wpList_appendX _ rfl (.tmp 31) (.tmp 32) rfl w.heap.size (.slice xa xm xc) L (P[k]).L rfl S.out.1 (P[k]).h.a (P[k]).h.n (P[k]).h.c rfl S.out.2.2.2.2.1 S.out.2.2.1 S.out.2.1 (by have := S.out.2.2.2.1; omega) S.out.2.2.2.2.2 ?_; intro a3 n3 c3 w3 hn3 hI3 hg3; (have N3 := hid (NX.out _ _ hI3 hg3)); clear hI3 hg3))
          go_roundw
          case rel => exact ⟨a3, n3, c3, k + 1, rfl, by go_num, by omega, N3.out⟩
          case measure => simp [intOf]; omega
        · obtain rfl : n = k := by omega
          obtain ⟨L, h1, h2⟩ := HI.out.ex
          have FIN : Hid (OutX w (partL P) (.returned (.slice xa xm xc)) wr) := ⟨xa, xm, xc, L, rfl, h1, by rw [h2, HH.out.2.1, List.take_length], HI.out.below⟩
          clear HI h1 h2
          go_wp2
          go_ret
          exact FIN.out
end Go.Proofs.YtahoagbaadnihabGreatDoor
