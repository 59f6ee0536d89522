import Derived.Test.YtdnacpbgodooaaaGreatDoorDevB
import Derived.Test.YtdnacpbgodooaaaGreatDoorMem2
import Derived.Test.YtdnacpbgodooaaaGreatDoorSecA
import Derived.Deep.RegionHeld3
set_option maxHeartbeats 1600000
set_option maxRecDepth 4000
namespace Go.Proofs.YtdnacpbgodooaaaGreatDoor
open Go.RowKit Go.Lib
structure NewI (w0:World) (B p b b' n:Nat) (V V':List Value) (w:World):Prop where
 res:Box2 w B (.slice none 0 0) (.slice none 0 0)
 cbox:Box2 w p (.slice (some ⟨b,0,none⟩) n n) (.slice (some ⟨b',0,none⟩) n n)
 s:Own w b 9 V
 l:Own w b' 4 V'
 ge:B+1<=p∧B+1<=b∧B+1<=b'
 ne:p≠b∧p≠b'∧b≠b'
 below:Below B w0 w
section
variable {w0 w w':World} {B p b b' n:Nat} {V V':List Value}
theorem NewI.to (h:NewI w0 B p b b' n V V' w) (g:Below w.heap.size w w'):NewI w0 B p b b' n V V' w':=
 ⟨h.res.below g,h.cbox.below g,h.s.below' g,h.l.below' g,h.ge,h.ne,h.below.trans (g.mono (Nat.le_of_lt h.res.lt))⟩
theorem NewI.step (h:NewI w0 B p b b' n V V' w) {k:Nat} (hk:k<V.length) (v:Value):NewI w0 B p b b' n (V.set k v) V' (w.setCell ⟨b,k,none⟩ v):=by
 obtain⟨g1,g2,g3⟩:=h.ge;obtain⟨n1,n2,n3⟩:=h.ne;exact⟨h.res.other (by show B≠b; omega) v,h.cbox.other (by show p≠b; omega) v,h.s.set hk v,h.l.other (by show b'≠b; omega) v,h.ge,h.ne,h.below.setCell (by show B<=b; omega) v⟩
end
theorem Z3c {W w0:World} {B n p b b':Nat} {S:List ByteArray} (hn:n=S.length) (hB:Below B w0 W) (_hs:W.heap.size=B+1) (h1:Box2 W B (.slice none 0 0) (.slice none 0 0))
  {w':World} (hb:Below (B+1) W w') (hg:B+1<=p∧B+1<=b∧B+1<=b') (hne:p≠b∧p≠b'∧b≠b')
  (hp:w'.heap[p]?=some (.cells #[.slice (some ⟨b,0,none⟩) n n,.slice (some ⟨b',0,none⟩) n n] 56 (0,0)))
  (hbs:w'.heap[b]?=some (.cells (Array.replicate n (.string ⟨#[]⟩)) 9 (0,0))) (hbl:w'.heap[b']?=some (.cells (Array.replicate n (.bool false)) 4 (0,0))):
  NewI w0 B p b b' n (half S 0) (List.replicate n (.bool false)) w':=by
 refine⟨h1.below2 hb (Nat.lt_succ_self _),box2_of (t:=56) ⟨[],hp⟩,⟨[],?_⟩,⟨[],?_⟩,hg,hne,hB.trans (hb.mono (by omega))⟩
 ·rw[JW,<- hn,List.append_nil,List.toArray_replicate]; exact hbs
 ·rw[List.append_nil,List.toArray_replicate]; exact hbl
theorem three' (W:World) (B:Nat) (hs:W.heap.size=B+1) (o1 o2 o3:Obj):(((W.alloc o1).alloc o2).alloc o3).drew.heap[B+1]?=some o1∧(((W.alloc o1).alloc o2).alloc o3).drew.heap[B+1+1]?=some o2∧(((W.alloc o1).alloc o2).alloc o3).drew.heap[B+1+1+1]?=some o3∧Below (B+1) W (((W.alloc o1).alloc o2).alloc o3).drew:=by
 have z1:(W.alloc o1).heap.size=B+2:=by simp[hs]
 have z2:((W.alloc o1).alloc o2).heap.size=B+3:=by simp[hs]
 show (((W.alloc o1).alloc o2).alloc o3).heap[B+1]?=some o1∧(((W.alloc o1).alloc o2).alloc o3).heap[B+2]?=some o2∧(((W.alloc o1).alloc o2).alloc o3).heap[B+3]?=some o3∧_
 refine⟨?_,?_,?_,((((Below.refl _ W).alloc (by omega) o1).alloc (by omega) o2).alloc (by omega) o3).drew⟩
 ·rw[Below.heap_alloc _ _ _ (by omega),Below.heap_alloc _ _ _ (by omega),<- hs]; exact heap_alloc_new W _
 ·rw[Below.heap_alloc _ _ _ (by omega),<- z1]; exact heap_alloc_new _ _
 ·rw[<- z2]; exact heap_alloc_new _ _
def newS (M:Nat) (start:Int):List ByteArray:=(List.range M).map fun (i:Nat)=>str (encd (start+i) []).1
theorem Z6u (M:Nat) (start:Int):(newS M start).length=M:=by simp[newS]
theorem Z7R (M:Nat) (start:Int) (k:Nat) (h:k<(newS M start).length):(newS M start)[k]=str (encd (start+k) []).1:=by simp[newS]
theorem Z7Q (many start:Int) (w:World) (h:¬ (1<=many∧many<=64∧0<=start∧start<=512)):
  Calls Tryz.prog 78 #[.int .i64 many,.int .i64 start] w (OutN w (nil2,2)):=by
 obtain⟨W,hW⟩:∃ W,W=w.alloc (.cells #[.slice none 0 0,.slice none 0 0] 56):=⟨_,rfl⟩;have bd:Box2 W w.heap.size (.slice none 0 0) (.slice none 0 0):=by rw[hW]; exact box2_of (Own.made w 56 [.slice none 0 0,.slice none 0 0])
 have hB:Below w.heap.size w W:=by rw[hW]; exact (Below.refl _ w).alloc (Nat.le_refl _) _
 have hK:∀ w',Below w.heap.size w w'->OutN w (nil2,2) (.returned (.tuple #[.agg #[.slice none 0 0,.slice none 0 0],.int .i64 2])) w':=fun w' g=>JL g
 have HK:=hid hK;clear hK bd hB hW W
 by_cases h1:many<1
 ·clear h
  go_enter Tryz.func78,Tryz.ntmps78
  go_wp2
  refine bodyPost_ret (v:=.tuple #[.agg #[.slice none 0 0,.slice none 0 0],.int .i64 2]) (by simp[results,Tryz.results78,go_sem]) rfl ?_
  exact HK.out _ (by go_grown)
 ·by_cases h2:64<many
  ·clear h
   go_enter Tryz.func78,Tryz.ntmps78
   go_wp2
   refine bodyPost_ret (v:=.tuple #[.agg #[.slice none 0 0,.slice none 0 0],.int .i64 2]) (by simp[results,Tryz.results78,go_sem]) rfl ?_
   exact HK.out _ (by go_grown)
  ·by_cases h3:start<0
   ·clear h
    go_enter Tryz.func78,Tryz.ntmps78
    go_wp2
    refine bodyPost_ret (v:=.tuple #[.agg #[.slice none 0 0,.slice none 0 0],.int .i64 2]) (by simp[results,Tryz.results78,go_sem]) rfl ?_
    exact HK.out _ (by go_grown)
   ·have h4:512<start:=by omega
    clear h;go_enter Tryz.func78,Tryz.ntmps78
    go_wp2
    refine bodyPost_ret (v:=.tuple #[.agg #[.slice none 0 0,.slice none 0 0],.int .i64 2]) (by simp[results,Tryz.results78,go_sem]) rfl ?_
    exact HK.out _ (by go_grown)
theorem new_ok (M:Nat) (start:Int) (w:World) (h0:1<=M) (h1:M<=64) (h2:0<=start) (h3:start<=512):
  Calls Tryz.prog 78 #[.int .i64 M,.int .i64 start] w (OutN w ((newS M start,List.replicate M false),0)):=by
 obtain⟨W,hW⟩:∃ W,W=w.alloc (.cells #[.slice none 0 0,.slice none 0 0] 56):=⟨_,rfl⟩;have bd:Box2 W w.heap.size (.slice none 0 0) (.slice none 0 0):=by rw[hW]; exact box2_of (Own.made w 56 [.slice none 0 0,.slice none 0 0])
 have hB:Below w.heap.size w W:=by rw[hW]; exact (Below.refl _ w).alloc (Nat.le_refl _) _
 have hz:W.heap.size=w.heap.size+1:=by rw[hW]; simp
 have HW:=hid (And.intro hz (And.intro hB (And.intro bd hW)));have mk1:=run_make_row' (P:=Tryz.prog) 31 9 (.string ⟨#[]⟩) 16 Tryz.underlying31 Z24 rfl .i64 .i64 M (by omega) (by omega)
 have mk2:=run_make_row' (P:=Tryz.prog) 54 4 (.bool false) 1 Tryz.underlying54 UQ rfl .i64 .i64 M (by omega) (by omega)
 rw[Qo] at mk1 mk2;have e1:¬ (M:Int)<1:=by omega
 have e2:¬ (64:Int)<M:=by omega
 have e3:¬ start<0:=by omega
 have e4:¬ 512<start:=by omega
 have HN:=hid (Z6u M start);have HA:=hid (Z7R M start);generalize newS M start=S at HN HA;clear hz hB bd hW;go_enter Tryz.func78,Tryz.ntmps78
 go_upto_region 3 with fail
 go_cut [6] (fun s6 wx=>∃ p b b',s6=.pointer (some ⟨p,0,none⟩)∧NewI w w.heap.size p b b' M (half S 0) (List.replicate M (.bool false)) wx)
 case first=>
  go_region
  all_goals (go_wp2_with fail; go_meet)
  all_goals (obtain⟨hz,hB,bd,hW⟩:=HW.out; rw[<- hW]; apply Exists.intro; apply Exists.intro; apply Exists.intro; refine⟨rfl,?_⟩; apply Z3c HN.out.symm hB hz bd (three' W w.heap.size hz _ _ _).2.2.2; (case hp=>(first | exact (three' W w.heap.size hz _ _ _).1 | exact (three' W w.heap.size hz _ _ _).2.1 | exact (three' W w.heap.size hz _ _ _).2.2.1)); (case hbs=>(first | exact (three' W w.heap.size hz _ _ _).1 | exact (three' W w.heap.size hz _ _ _).2.1 | exact (three' W w.heap.size hz _ _ _).2.2.1)); (case hbl=>(first | exact (three' W w.heap.size hz _ _ _).1 | exact (three' W w.heap.size hz _ _ _).2.1 | exact (three' W w.heap.size hz _ _ _).2.2.1)); (case hg=>omega); (case hne=>omega))
 case rest=>
  obtain⟨p,b,b',rfl,hI⟩:=hcut;clear HW mk1 mk2 e1 e2;have c1:=hI.cbox.c0;have HI:=hid hI;clear hI;go_wp2_with fail
  clear c1;go_loopw [31] (fun i wr=>∃ k:Nat,k<=M∧i=.int .i64 k∧NewI w w.heap.size p b b' M (half S k) (List.replicate M (.bool false)) wr) (fun i _=>M-(intOf i).toNat)
  case atStart=>exact⟨0,Nat.zero_le _,rfl,HI.out⟩
  case round=>
   obtain⟨k,hk,rfl,hI⟩:=hrel;clear HI
   by_cases hlt:k<M
   ·have hlt':(k:Int)<M:=by omega
    have hS:k<S.length:=by rw[HN.out]; exact hlt
    obtain⟨v,hv⟩:=Z51 S k hS;have u1:IntKind.i64.wrap (start+(k:Int))=start+(k:Int):=IntWalk.i64_in _ (by omega)
    have hE:=fun wx=>TI (start+k) ⟨#[]⟩ wx
    have hx:(half S k).set k (.string (str (encd (start+k) []).1))=half S (k+1):=by rw[<- HA.out k hS]; exact JV S k hS
    change ∀ wx,Calls Tryz.prog 137 _ wx (fun e w'=>e=.returned (.tuple #[.string (str (encd (start+k) []).1),.int .i64 (encd (start+k) []).2])∧Below wx.heap.size wx w') at hE
    generalize encd (start+(k:Int)) []=r at hE hx;have HE:=hid hE;have HX:=hid (And.intro hv hx);have HI:=hid hI;have c0:=hI.cbox.c0;clear hI hE hv hx;go_wp2_with fail
    go_region_held3 (fun w'=>w'.cell? ⟨p,0,none⟩=some (.slice (some ⟨b,0,none⟩) M M)) (go_keep)
     (first | (go_at_call 137; refine (HE.out _).mono ?_; rintro _ w4 ⟨rfl,g4⟩; (have I4:=HI.out.to (undrew g4)); (have I5:=I4.step (k:=k) (by rw[Qy S k (by omega)]; exact hS) (.string (str r.1))); (have j0:=I4.cbox.c0); (have j1:=I4.s.cell HX.out.1); (have j2:=I4.s.free k); (have j3:=I5.cbox.c0); (have H5:=hid I5); clear I4 I5 g4))
    all_goals clear c0 j0 j1 j2 j3
    all_goals go_wp2
    all_goals go_roundw
    all_goals (first | (case rel=>exact⟨k+1,by omega,by go_num,by rw[<- HX.out.2]; exact H5.out⟩) | skip)
    all_goals (simp[intOf]; omega)
   ·obtain rfl:k=M:=by omega
    have hnl:¬ (k:Int)<k:=by omega
    have u0:=hI.cbox.c0;have u1:=hI.cbox.c1;have v0:=hI.res.c0;have v1:=hI.res.c1;have x0:=hI.res.f0;have x1:=hI.res.f1;obtain⟨y0,y1⟩:=Z6 (.slice (some ⟨b,0,none⟩) k k) (.slice (some ⟨b',0,none⟩) k k) v0 v1;obtain⟨g1,g2,g3⟩:=hI.ge;obtain⟨n1,n2,n3⟩:=hI.ne;have k1:=(hI.s.other (p:=⟨w.heap.size,0,none⟩) (by show b≠w.heap.size; omega) (.slice (some ⟨b,0,none⟩) k k)).other (p:=⟨w.heap.size,1,none⟩) (by show b≠w.heap.size; omega) (.slice (some ⟨b',0,none⟩) k k)
    have k2:=(hI.l.other (p:=⟨w.heap.size,0,none⟩) (by show b'≠w.heap.size; omega) (.slice (some ⟨b,0,none⟩) k k)).other (p:=⟨w.heap.size,1,none⟩) (by show b'≠w.heap.size; omega) (.slice (some ⟨b',0,none⟩) k k)
    have k4:=(hI.below.setCell (p:=⟨w.heap.size,0,none⟩) (Nat.le_refl _) (.slice (some ⟨b,0,none⟩) k k)).setCell (p:=⟨w.heap.size,1,none⟩) (Nat.le_refl _) (.slice (some ⟨b',0,none⟩) k k);rw[show half S k=S.map .string by have:=Z2b S; rw[HN.out] at this; exact this] at k1
    rw[show List.replicate k (Value.bool false)=(List.replicate k false).map .bool by simp] at k2
    have K:=hid (And.intro k1 (And.intro k2 (And.intro (VI (B:=w.heap.size) (b:=b) (b':=b') (by omega) (by omega)) (And.intro k4 (And.intro n3 (And.intro (show w.heap.size<=b by omega) (show w.heap.size<=b' by omega)))))))
    clear hI k1 k2 k4 g1 g2 g3 n1 n2 n3;go_wp2
    refine bodyPost_ret (v:=.tuple #[.agg #[.slice (some ⟨b,0,none⟩) k k,.slice (some ⟨b',0,none⟩) k k],.int .i64 0]) (by simp[results,Tryz.results78,go_sem,y0,y1]) rfl ?_
    exact⟨_,k,k,_,k,k,rfl,⟨.inr ⟨b,rfl,K.out.2.2.2.2.2.1,K.out.1⟩,.inr ⟨b',rfl,K.out.2.2.2.2.2.2,K.out.2.1⟩,fun _ _ x y hx hy=>by cases hx; cases hy; exact K.out.2.2.2.2.1⟩,⟨HN.out.symm,by simp,by unfold maxLen; omega,by unfold maxLen; omega⟩,K.out.2.2.1,K.out.2.2.2.1⟩
theorem Z4H (many start:Int) (w:World):Calls Tryz.prog 78 #[.int .i64 many,.int .i64 start] w (OutN w (dvNew many start)):=by
 unfold dvNew
 by_cases h:1<=many∧many<=64∧0<=start∧start<=512
 ·rw[if_pos h]
  obtain⟨M,rfl⟩:∃ M:Nat,many=M:=⟨many.toNat,by omega⟩
  have e:(M:Int).toNat=M:=by omega
  rw[e];exact new_ok M start w (by omega) (by omega) h.2.2.1 h.2.2.2
 ·rw[if_neg h]
  exact Z7Q many start w h
end Go.Proofs.YtdnacpbgodooaaaGreatDoor
namespace Go.Proofs.YtdnacpbgodooaaaGreatDoor
open Go.RowKit Go.Lib
def Changed (w w':World) (pc n m:Nat) (D:Dv):Prop:=
 ∃ b b',Box2 w' pc (.slice (some ⟨b,0,none⟩) n n) (.slice (some ⟨b',0,none⟩) m m)∧pc<b∧pc<b'∧b≠b'∧Own w' b 9 (D.1.map .string)∧Own w' b' 4 (D.2.map .bool)∧Below pc w w'
theorem Z1p (g:Nat) (lb:Array Value) (s s2:ByteArray) (l l2:Bool) (e2:Int) (pi pd pc pn:Nat) (w:World) (eg:∀ args w,(callFunc g args).run Tryz.prog w=.ok (.enter g args) w)
  (hi:w.cell? ⟨pi,0,none⟩=some (.func (.func g) #[] lb)) (he:e2≠0)
  (hc:Calls Tryz.prog g (#[.string s,.bool l]++lb) w fun e w'=>e=.returned (.tuple #[.string s2,.bool l2,.int .i64 e2])∧Below w.heap.size w w'):
  Calls Tryz.prog 107 #[.string s,.bool l,.pointer (some ⟨pi,0,none⟩),.pointer (some ⟨pd,0,none⟩),.pointer (some ⟨pc,0,none⟩),.pointer (some ⟨pn,0,none⟩)] w fun e w'=>e=.returned (.int .i64 e2)∧Below w.heap.size w w':=by
 have hq:(e2==0)=false:=beq_eq_false_iff_ne.2 he;have HC:=hid hc;clear hc he;go_enter Tryz.func107,Tryz.ntmps107
 go_wp2_with fail
 go_at_fn g
 refine HC.out.mono ?_
 rintro _ w1 ⟨rfl,g1⟩;go_wp2
 go_ret
 exact⟨rfl,g1⟩
theorem later4 {w W w4:World} {pc pn b b' n m k:Nat} {D:Dv} {x y:Value} (h:Box2 W pc (.slice (some ⟨b,0,none⟩) n n) (.slice (some ⟨b',0,none⟩) m m)∧Own W b 9 (D.1.map .string)∧Own W b' 4 (D.2.map .bool)∧W.cell? ⟨pn,0,none⟩=some (.int .i64 k)∧Below pc w W∧(pc<b∧pc<b'∧b≠b')∧(pn≠b∧pn≠b'))
  (hx:(D.1.map Value.string)[k]?=some x∧(D.2.map Value.bool)[k]?=some y) (g:Below W.heap.size W w4) (s2:ByteArray) (l2:Bool):
  w4.cell? ⟨pc,0,none⟩=some (.slice (some ⟨b,0,none⟩) n n)∧w4.cell? ⟨pc,1,none⟩=some (.slice (some ⟨b',0,none⟩) m m)∧w4.cell? ⟨pn,0,none⟩=some (.int .i64 k)∧w4.cell? ⟨b,k,none⟩=some x∧w4.frozen? ⟨b,k,none⟩=false ∧
  (w4.setCell ⟨b,k,none⟩ (.string s2)).cell? ⟨pc,0,none⟩=some (.slice (some ⟨b,0,none⟩) n n)∧(w4.setCell ⟨b,k,none⟩ (.string s2)).cell? ⟨pc,1,none⟩=some (.slice (some ⟨b',0,none⟩) m m)∧(w4.setCell ⟨b,k,none⟩ (.string s2)).cell? ⟨pn,0,none⟩=some (.int .i64 k) ∧
  (w4.setCell ⟨b,k,none⟩ (.string s2)).cell? ⟨b',k,none⟩=some y∧(w4.setCell ⟨b,k,none⟩ (.string s2)).frozen? ⟨b',k,none⟩=false ∧
  ((w4.setCell ⟨b,k,none⟩ (.string s2)).setCell ⟨b',k,none⟩ (.bool l2)).cell? ⟨pc,0,none⟩=some (.slice (some ⟨b,0,none⟩) n n)∧((w4.setCell ⟨b,k,none⟩ (.string s2)).setCell ⟨b',k,none⟩ (.bool l2)).cell? ⟨pc,1,none⟩=some (.slice (some ⟨b',0,none⟩) m m)∧((w4.setCell ⟨b,k,none⟩ (.string s2)).setCell ⟨b',k,none⟩ (.bool l2)).cell? ⟨pn,0,none⟩=some (.int .i64 k) ∧
  Changed w ((w4.setCell ⟨b,k,none⟩ (.string s2)).setCell ⟨b',k,none⟩ (.bool l2)) pc n m (dvPut D k s2 l2):=by
 obtain⟨h1,h2,h3,h4,h5,⟨h6,h7,h8⟩,h9,h10⟩:=h;have B5:=h1.below g;have N5:=(g.cell (p:=⟨pn,0,none⟩) (YL h4)).trans h4;have O5:=h2.below' g;have O6:=h3.below' g;have B6:=B5.other (q:=⟨b,k,none⟩) (Nat.ne_of_lt h6) (.string s2);have N6:=(World.cell?_setCell_other w4 ⟨b,k,none⟩ ⟨pn,0,none⟩ (.string s2) (fun e=>h9 (congrArg Addr.block e).symm)).trans N5
 have O7:=O6.other (p:=⟨b,k,none⟩) (fun e=>h8 e.symm) (.string s2)
 have hk:k<(D.1.map Value.string).length:=by
  rcases Nat.lt_or_ge k (D.1.map Value.string).length with h | h
  ·exact h
  ·rw[List.getElem?_eq_none h] at hx; cases hx.1
 have hk':k<(D.2.map Value.bool).length:=by
  rcases Nat.lt_or_ge k (D.2.map Value.bool).length with h | h
  ·exact h
  ·rw[List.getElem?_eq_none h] at hx; cases hx.2
 have P6:=O5.set hk (.string s2);have B7:=B6.other (q:=⟨b',k,none⟩) (Nat.ne_of_lt h7) (.bool l2);have N7:=(World.cell?_setCell_other (w4.setCell ⟨b,k,none⟩ (.string s2)) ⟨b',k,none⟩ ⟨pn,0,none⟩ (.bool l2) (fun e=>h10 (congrArg Addr.block e).symm)).trans N6
 have P7:=P6.other (p:=⟨b',k,none⟩) h8 (.bool l2);have Q7:=O7.set hk' (.bool l2);rw[(Wo D k s2 l2).1] at P7;rw[(Wo D k s2 l2).2] at Q7;exact⟨B5.c0,B5.c1,N5,O5.cell hx.1,O5.free k,B6.c0,B6.c1,N6,O7.cell hx.2,O7.free k,B7.c0,B7.c1,N7,b,b',B7,h6,h7,h8,P7,Q7,((h5.trans (g.mono (Nat.le_of_lt h1.lt))).setCell (Nat.le_of_lt h6) _).setCell (Nat.le_of_lt h7) _⟩
theorem Z3y (a:Option Addr) (n c:Nat) (a':Option Addr) (m c':Nat) (k:Nat) (g:Nat) (lb:Array Value) (D:Dv) (s s2:ByteArray) (l l2:Bool) (pi pd pc pn:Nat) (w:World) (eg:∀ args w,(callFunc g args).run Tryz.prog w=.ok (.enter g args) w)
  (hi:w.cell? ⟨pi,0,none⟩=some (.func (.func g) #[] lb)) (hd:Box2 w pd (.slice a n c) (.slice a' m c')) (hp:Box2 w pc (.slice none 0 0) (.slice none 0 0)) (hn:w.cell? ⟨pn,0,none⟩=some (.int .i64 k)) (hnl:pn<w.heap.size) (hpn:pn≠pc) (h:Zc w a n a' m D) (hk:k<n) (hm:m=n) (hn64:n<=64) (hs:∀ s∈D.1,s.size=30) (hs2:s2.size<=281474976710656)
  (hc:Calls Tryz.prog g (#[.string s,.bool l]++lb) w fun e w'=>e=.returned (.tuple #[.string s2,.bool l2,.int .i64 0])∧Below w.heap.size w w'):
  Calls Tryz.prog 107 #[.string s,.bool l,.pointer (some ⟨pi,0,none⟩),.pointer (some ⟨pd,0,none⟩),.pointer (some ⟨pc,0,none⟩),.pointer (some ⟨pn,0,none⟩)] w fun e w'=>e=.returned (.int .i64 0)∧Changed w w' pc n m (dvPut D k s2 l2):=by
 have HC:=hid hc;have HK:=hid (fun wx (g:Below w.heap.size w wx)=>Z2l a n c a' m c' D wx (h.below g) (by omega) (by omega) (fun s hx=>by rw[hs s hx]; omega))
 have HS:=hid (fun wx=>Wi s2 wx hs2)
 have HB:=hid (And.intro hd (And.intro hp (And.intro hn hnl)));have HD:=hid h;have hk':(k:Int)<n:=by omega
 have hk2:(k:Int)<m:=by omega
 have HM:=hid (And.intro hk hm);clear hc hd hp hn hnl h hs hs2 hn64 hk hm;go_enter Tryz.func107,Tryz.ntmps107
 go_wp2_with fail
 go_at_fn g
 refine HC.out.mono ?_
 rintro _ w1 ⟨rfl,g1⟩;have b1:=HB.out.1.below g1;have d0:=b1.c0;have d1:=b1.c1;clear b1;have G1:=hid g1;clear g1 hi;go_wp2_with fail
 refine (HK.out _ G1.out).mono ?_
 rintro _ w2 ⟨b,b',rfl,q1,q2,q3,q4,q5,g2⟩;have bb:=(HB.out.2.1.below G1.out).below g2;have hpc1:pc<w1.heap.size:=(HB.out.2.1.below G1.out).lt;have e0:=bb.c0;have e1:=bb.c1;have f0:=bb.f0;have f1:=bb.f1;have b3:=bb.store (.slice (some ⟨b,0,none⟩) n n) (.slice (some ⟨b',0,none⟩) m m);have o3:=(q4.other (p:=⟨pc,0,none⟩) (by show b≠pc; omega) (.slice (some ⟨b,0,none⟩) n n)).other (p:=⟨pc,1,none⟩) (by show b≠pc; omega) (.slice (some ⟨b',0,none⟩) m m)
 have o3':=(q5.other (p:=⟨pc,0,none⟩) (by show b'≠pc; omega) (.slice (some ⟨b,0,none⟩) n n)).other (p:=⟨pc,1,none⟩) (by show b'≠pc; omega) (.slice (some ⟨b',0,none⟩) m m)
 have n3:((w2.setCell ⟨pc,0,none⟩ (.slice (some ⟨b,0,none⟩) n n)).setCell ⟨pc,1,none⟩ (.slice (some ⟨b',0,none⟩) m m)).cell? ⟨pn,0,none⟩=some (.int .i64 k):=by
  rw[World.cell?_setCell_other _ _ _ _ (by simp),World.cell?_setCell_other _ _ _ _ (by simp)]
  exact (g2.cell (p:=⟨pn,0,none⟩) (by show pn<w1.heap.size; have:=HB.out.2.2.2; have:=G1.out.size; omega)).trans ((G1.out.cell (p:=⟨pn,0,none⟩) HB.out.2.2.2).trans HB.out.2.2.1)
 have w3:Below pc w ((w2.setCell ⟨pc,0,none⟩ (.slice (some ⟨b,0,none⟩) n n)).setCell ⟨pc,1,none⟩ (.slice (some ⟨b',0,none⟩) m m)):=
  (((G1.out.mono (Nat.le_of_lt HB.out.2.1.lt)).trans (g2.mono (Nat.le_of_lt hpc1))).setCell (Nat.le_refl _) _).setCell (Nat.le_refl _) _
 have HQ:=hid (And.intro b3 (And.intro o3 (And.intro o3' (And.intro n3 (And.intro w3 (And.intro (show pc<b∧pc<b'∧b≠b' by omega) (show pn≠b∧pn≠b' by have:=HB.out.2.2.2; have:=G1.out.size; omega)))))))
 clear bb b3 o3 o3' n3 w3 q1 q2 q3 q4 q5 g2 d0 d1 hpc1;go_upto_region 4 with fail
 generalize (w2.setCell ⟨pc,0,none⟩ (.slice (some ⟨b,0,none⟩) n n)).setCell ⟨pc,1,none⟩ (.slice (some ⟨b',0,none⟩) m m)=W at HQ;clear e0 e1 f0 f1;obtain⟨x,hx⟩:∃ x,(D.1.map Value.string)[k]?=some x:=⟨_,List.getElem?_eq_getElem (by rw[List.length_map,<- HD.out.sn]; exact HM.out.1)⟩
 obtain⟨y,hy⟩:∃ y,(D.2.map Value.bool)[k]?=some y:=⟨_,List.getElem?_eq_getElem (by rw[List.length_map,<- HD.out.sm]; have:=HM.out; omega)⟩
 have HX:=hid (And.intro hx hy);clear hx hy HK HC;go_cut [] (fun wx=>Changed w wx pc n m (dvPut D k s2 l2))
 case rest=>
  go_wp2
  go_ret
  exact⟨rfl,hcut⟩
 case first=>
  have e0:=HQ.out.1.c0;have e1:=HQ.out.1.c1;have en:=HQ.out.2.2.2.1;go_region_held3 (fun w'=>w'.cell? ⟨pc,0,none⟩=some (.slice (some ⟨b,0,none⟩) n n)∧w'.cell? ⟨pc,1,none⟩=some (.slice (some ⟨b',0,none⟩) m m)∧w'.cell? ⟨pn,0,none⟩=some (.int .i64 k)) (go_keep)
   (first | (go_at_call 108; refine (HS.out _).mono ?_; rintro _ w4 ⟨rfl,g4⟩; (have g5:=undrew g4); clear g4; (have Z:=later4 HQ.out HX.out g5 s2 l2); obtain⟨i0,i1,i2,j0,j1,i3,i4,i5,j2,j3,i6,i7,i8,hz⟩:=Z; (have H5:=hid hz); clear hz g5))
  go_wp2_with fail
  go_meet
  case rel=>exact H5.out
structure ChgD (w W:World) (d1 d2 fv:Value) (i:Int):Prop where
 below:Below w.heap.size w W
 size:W.heap.size=w.heap.size+5
 d:Box2 W w.heap.size d1 d2
 n:W.cell? ⟨w.heap.size+1,0,none⟩=some (.int .i64 i)
 f:W.cell? ⟨w.heap.size+1+1,0,none⟩=some fv
 r:Box2 W (w.heap.size+1+1+1) (.slice none 0 0) (.slice none 0 0)
 c:Box2 W (w.heap.size+1+1+1+1) (.slice none 0 0) (.slice none 0 0)
theorem Z5w (w:World) (d1 d2 fv:Value) (i:Int) (t1 t2 t3 t4 t5:TypeId):ChgD w (((((w.alloc (.cells #[d1,d2] t1)).alloc (.cells #[.int .i64 i] t2)).alloc (.cells #[fv] t3)).alloc (.cells #[.slice none 0 0,.slice none 0 0] t4)).alloc (.cells #[.slice none 0 0,.slice none 0 0] t5)) d1 d2 fv i:=by
 have o1:Own (w.alloc (.cells #[d1,d2] t1)) w.heap.size t1 [d1,d2]:=Own.made w t1 [d1,d2];obtain⟨w1,e1⟩:∃ w1,w1=w.alloc (.cells #[d1,d2] t1):=⟨_,rfl⟩;have z1:w1.heap.size=w.heap.size+1:=by rw[e1]; simp
 have b1:Below w.heap.size w w1:=by rw[e1]; exact (Below.refl _ w).alloc (Nat.le_refl _) _
 rw[<- e1] at o1 ⊢;clear e1;have o2:Own (w1.alloc (.cells #[.int .i64 i] t2)) w1.heap.size t2 [.int .i64 i]:=Own.made w1 t2 [.int .i64 i];replace o1:=o1.alloc (.cells #[.int .i64 i] t2);obtain⟨w2,e2⟩:∃ w2,w2=w1.alloc (.cells #[.int .i64 i] t2):=⟨_,rfl⟩;have z2:w2.heap.size=w.heap.size+1+1:=by rw[e2]; simp[z1]
 have b2:Below w.heap.size w w2:=by rw[e2]; exact b1.alloc b1.size _
 rw[<- e2] at o1 o2 ⊢;clear e2;have o3:Own (w2.alloc (.cells #[fv] t3)) w2.heap.size t3 [fv]:=Own.made w2 t3 [fv];replace o1:=o1.alloc (.cells #[fv] t3);replace o2:=o2.alloc (.cells #[fv] t3);obtain⟨w3,e3⟩:∃ w3,w3=w2.alloc (.cells #[fv] t3):=⟨_,rfl⟩;have z3:w3.heap.size=w.heap.size+1+1+1:=by rw[e3]; simp[z2]
 have b3:Below w.heap.size w w3:=by rw[e3]; exact b2.alloc b2.size _
 rw[<- e3] at o1 o2 o3 ⊢;clear e3;have o4:Own (w3.alloc (.cells #[.slice none 0 0,.slice none 0 0] t4)) w3.heap.size t4 [.slice none 0 0,.slice none 0 0]:=Own.made w3 t4 [.slice none 0 0,.slice none 0 0];replace o1:=o1.alloc (.cells #[.slice none 0 0,.slice none 0 0] t4);replace o2:=o2.alloc (.cells #[.slice none 0 0,.slice none 0 0] t4);replace o3:=o3.alloc (.cells #[.slice none 0 0,.slice none 0 0] t4);obtain⟨w4,e4⟩:∃ w4,w4=w3.alloc (.cells #[.slice none 0 0,.slice none 0 0] t4):=⟨_,rfl⟩;have z4:w4.heap.size=w.heap.size+1+1+1+1:=by rw[e4]; simp[z3]
 have b4:Below w.heap.size w w4:=by rw[e4]; exact b3.alloc b3.size _
 rw[<- e4] at o1 o2 o3 o4 ⊢;clear e4;have o5:Own (w4.alloc (.cells #[.slice none 0 0,.slice none 0 0] t5)) w4.heap.size t5 [.slice none 0 0,.slice none 0 0]:=Own.made w4 t5 [.slice none 0 0,.slice none 0 0];replace o1:=o1.alloc (.cells #[.slice none 0 0,.slice none 0 0] t5);replace o2:=o2.alloc (.cells #[.slice none 0 0,.slice none 0 0] t5);replace o3:=o3.alloc (.cells #[.slice none 0 0,.slice none 0 0] t5);replace o4:=o4.alloc (.cells #[.slice none 0 0,.slice none 0 0] t5);rw[z1] at o2;rw[z2] at o3;rw[z3] at o4;rw[z4] at o5;exact⟨b4.alloc b4.size _,by simp[z4],box2_of o1,o2.cell rfl,o3.cell rfl,box2_of o4,box2_of o5⟩
theorem Yl (a:Option Addr) (n c:Nat) (a':Option Addr) (m c':Nat) (i:Int) (g:Nat) (lb:Array Value) (D:Dv) (r:ByteArray × Bool × Int) (w:World) (h:Zc w a n a' m D) (eg:∀ args w,(callFunc g args).run Tryz.prog w=.ok (.enter g args) w)
  (hr:r.1.size<=281474976710656)
  (hc:dvTouch D i=0->∀ w1,Below w.heap.size w w1->Calls Tryz.prog g (#[.string (sec D i.toNat),.bool (los D i.toNat)]++lb) w1 fun e w'=>e=.returned (.tuple #[.string r.1,.bool r.2.1,.int .i64 r.2.2])∧Below w1.heap.size w1 w'):
  Calls Tryz.prog 52 #[.agg #[.slice a n c,.slice a' m c'],.int .i64 i,.func (.func g) #[] lb] w (OutE w (dvChange D i r)):=by
 obtain⟨W,hW⟩:∃ W,W=((((w.alloc (.cells #[.slice a n c,.slice a' m c'] 56)).alloc (.cells #[.int .i64 i] 3)).alloc (.cells #[.func (.func g) #[] lb] 102)).alloc (.cells #[.slice none 0 0,.slice none 0 0] 56)).alloc (.cells #[.slice none 0 0,.slice none 0 0] 56):=⟨_,rfl⟩;have hS:=Z5w w (.slice a n c) (.slice a' m c') (.func (.func g) #[] lb) i 56 3 102 56 56;rw[<- hW] at hS;have hD:=h.below hS.below;have HE:=hid hW
 by_cases ht:dvTouch D i=0
 ·obtain⟨hmay,h0,h1,h2,h64⟩:=ZM D i ht
  obtain⟨k,rfl⟩:∃ k:Nat,i=k:=⟨i.toNat,by omega⟩
  have hto:(k:Int).toNat=k:=by omega
  rw[hto] at hc;have hkn:k<n:=by rw[h.sn]; omega
  have hmn:m=n:=by rw[h.sn,h.sm]; exact h2
  have hn64:n<=64:=by rw[h.sn]; exact h64
  rw[Vu D k r ht]
  by_cases h3:r.2.2=0
  ·rw[if_pos h3]
   rw[h3] at hc;have hL:=Z15 a n c a' m c' k 107 #[.pointer (some ⟨w.heap.size+1+1,0,none⟩),.pointer (some ⟨w.heap.size,0,none⟩),.pointer (some ⟨w.heap.size+1+1+1+1,0,none⟩),.pointer (some ⟨w.heap.size+1,0,none⟩)] D W hD ht (enters_of Tryz.func107 (by kernel_rfl) rfl)
    (fun x w'=>x=0∧Changed W w' (w.heap.size+1+1+1+1) n m (dvPut D k r.1 r.2.1)) (fun w1 g1=>by
     have g2:=hS.below.trans (g1.mono hS.below.size);refine (Z3y a n c a' m c' k g lb D (sec D k) r.1 (los D k) r.2.1 (w.heap.size+1+1) w.heap.size (w.heap.size+1+1+1+1) (w.heap.size+1) w1 eg ((g1.cell (p:=⟨w.heap.size+1+1,0,none⟩) (by show w.heap.size+1+1<W.heap.size; rw[hS.size]; omega)).trans hS.f) (hS.d.below g1) (hS.c.below g1)
      ((g1.cell (p:=⟨w.heap.size+1,0,none⟩) (by show w.heap.size+1<W.heap.size; rw[hS.size]; omega)).trans hS.n) (by have:=g1.size; rw[hS.size] at this; omega) (by omega) (hD.below g1) hkn hmn hn64 ((ZG D).1 hmay).2 hr (hc ht w1 g2)).mono ?_
     rintro e w2 ⟨he,b,b',q1,q2,q3,q4,q5,q6,q7⟩;exact⟨0,he,rfl,b,b',q1,q2,q3,q4,q5,q6,(g1.mono (by rw[hS.size]; omega)).trans q7⟩)
   rw[hW] at hL;have HL:=hid hL;have HS:=hid hS;have HN:=hid (And.intro h.sn (And.intro h.sm (And.intro h.nb h.mb)));clear hL hW hS hD hc ht h hto hkn hmn hn64 hmay h0 h1 h2 h64 h3 hr;go_enter Tryz.func52,Tryz.ntmps52
   go_wp2_with fail
   refine HL.out.mono ?_
   rintro _ w1 ⟨x,rfl,rfl,b,b',q1,q2,q3,q4,q5,q6,q7⟩;rw[<- HE.out] at q7;have rb:=HS.out.r.below2 q7 (Nat.lt_succ_self _);have u0:=q1.c0;have u1:=q1.c1;have v0:=rb.c0;have v1:=rb.c1;have x0:=rb.f0;have x1:=rb.f1;obtain⟨y0,y1⟩:=Z6 (.slice (some ⟨b,0,none⟩) n n) (.slice (some ⟨b',0,none⟩) m m) v0 v1;have k1:=(q5.other (p:=⟨w.heap.size+1+1+1,0,none⟩) (by show b≠w.heap.size+1+1+1; omega) (.slice (some ⟨b,0,none⟩) n n)).other (p:=⟨w.heap.size+1+1+1,1,none⟩) (by show b≠w.heap.size+1+1+1; omega) (.slice (some ⟨b',0,none⟩) m m)
   have k2:=(q6.other (p:=⟨w.heap.size+1+1+1,0,none⟩) (by show b'≠w.heap.size+1+1+1; omega) (.slice (some ⟨b,0,none⟩) n n)).other (p:=⟨w.heap.size+1+1+1,1,none⟩) (by show b'≠w.heap.size+1+1+1; omega) (.slice (some ⟨b',0,none⟩) m m)
   have k3:Below w.heap.size w w1:=HS.out.below.trans (q7.mono (by omega))
   have k4:=(k3.setCell (p:=⟨w.heap.size+1+1+1,0,none⟩) (by show w.heap.size<=w.heap.size+1+1+1; omega) (.slice (some ⟨b,0,none⟩) n n)).setCell (p:=⟨w.heap.size+1+1+1,1,none⟩) (by show w.heap.size<=w.heap.size+1+1+1; omega) (.slice (some ⟨b',0,none⟩) m m)
   have K:=hid (And.intro k1 (And.intro k2 (And.intro (VI (B:=w.heap.size) (b:=b) (b':=b') (by omega) (by omega)) k4)))
   clear q1 q2 q3 q4 q5 q6 q7 rb k1 k2 k3 k4;go_wp2
   refine bodyPost_ret (v:=.tuple #[.agg #[.slice (some ⟨b,0,none⟩) n n,.slice (some ⟨b',0,none⟩) m m],.int .i64 0]) (by simp[results,Tryz.results52,go_sem,y0,y1]) rfl ?_
   obtain⟨z1,z2⟩:=XM D k r.1 r.2.1;exact⟨_,n,n,_,m,m,rfl,⟨by rw[z1]; exact HN.out.1,by rw[z2]; exact HN.out.2.1,K.out.1.row,K.out.2.1.row,HN.out.2.2.1,HN.out.2.2.2⟩,K.out.2.2.1,K.out.2.2.2⟩
  ·rw[if_neg h3]
   have hL:=Z15 a n c a' m c' k 107 #[.pointer (some ⟨w.heap.size+1+1,0,none⟩),.pointer (some ⟨w.heap.size,0,none⟩),.pointer (some ⟨w.heap.size+1+1+1+1,0,none⟩),.pointer (some ⟨w.heap.size+1,0,none⟩)] D W hD ht (enters_of Tryz.func107 (by kernel_rfl) rfl)
    (fun x w'=>x=r.2.2∧Below W.heap.size W w') (fun w1 g1=>by
     have g2:=hS.below.trans (g1.mono hS.below.size);refine (Z1p g lb (sec D k) r.1 (los D k) r.2.1 r.2.2 (w.heap.size+1+1) w.heap.size (w.heap.size+1+1+1+1) (w.heap.size+1) w1 eg ((g1.cell (p:=⟨w.heap.size+1+1,0,none⟩) (by show w.heap.size+1+1<W.heap.size; rw[hS.size]; omega)).trans hS.f) h3 (hc ht w1 g2)).mono ?_
     rintro e w2 ⟨he,q⟩;exact⟨r.2.2,he,rfl,g1.trans (q.mono g1.size)⟩)
   rw[hW] at hL;have HL:=hid hL;have HS:=hid hS;clear hL hW hS hD hc ht h hto hkn hmn hn64 hmay h0 h1 h2 h64 hr;go_enter Tryz.func52,Tryz.ntmps52
   go_wp2_with fail
   refine HL.out.mono ?_
   rintro _ w1 ⟨x,rfl,rfl,q7⟩;rw[<- HE.out] at q7;have rb:=HS.out.r.below q7;have cb:=HS.out.c.below q7;have u0:=cb.c0;have u1:=cb.c1;have v0:=rb.c0;have v1:=rb.c1;have x0:=rb.f0;have x1:=rb.f1;obtain⟨y0,y1⟩:=Z6 (.slice none 0 0) (.slice none 0 0) v0 v1;have k3:Below w.heap.size w w1:=HS.out.below.trans (q7.mono HS.out.below.size);have k4:=(k3.setCell (p:=⟨w.heap.size+1+1+1,0,none⟩) (by show w.heap.size<=w.heap.size+1+1+1; omega) (.slice none 0 0)).setCell (p:=⟨w.heap.size+1+1+1,1,none⟩) (by show w.heap.size<=w.heap.size+1+1+1; omega) (.slice none 0 0)
   have K:=hid k4;clear q7 rb cb k3 k4;go_wp2
   refine bodyPost_ret (v:=.tuple #[.agg #[.slice none 0 0,.slice none 0 0],.int .i64 r.2.2]) (by simp[results,Tryz.results52,go_sem,y0,y1]) rfl ?_
   exact⟨none,0,0,none,0,0,rfl,devAt_none _,fresh_none _,K.out⟩
 ·rw[dvChange,if_neg ht]
  have hL:=Z23 a n c a' m c' i (.func (.func 107) #[] #[.pointer (some ⟨w.heap.size+1+1,0,none⟩),.pointer (some ⟨w.heap.size,0,none⟩),.pointer (some ⟨w.heap.size+1+1+1+1,0,none⟩),.pointer (some ⟨w.heap.size+1,0,none⟩)]) D W hD ht;rw[hW] at hL;have HL:=hid hL;have HS:=hid hS;clear hL hW hS hD hc ht h hr;generalize dvTouch D i=t at HL;go_enter Tryz.func52,Tryz.ntmps52
  go_wp2_with fail
  refine HL.out.mono ?_
  rintro _ w1 ⟨rfl,q7⟩;rw[<- HE.out] at q7;have rb:=HS.out.r.below q7;have cb:=HS.out.c.below q7;have u0:=cb.c0;have u1:=cb.c1;have v0:=rb.c0;have v1:=rb.c1;have x0:=rb.f0;have x1:=rb.f1;obtain⟨y0,y1⟩:=Z6 (.slice none 0 0) (.slice none 0 0) v0 v1;have k3:Below w.heap.size w w1:=HS.out.below.trans (q7.mono HS.out.below.size);have k4:=(k3.setCell (p:=⟨w.heap.size+1+1+1,0,none⟩) (by show w.heap.size<=w.heap.size+1+1+1; omega) (.slice none 0 0)).setCell (p:=⟨w.heap.size+1+1+1,1,none⟩) (by show w.heap.size<=w.heap.size+1+1+1; omega) (.slice none 0 0)
  have K:=hid k4;clear q7 rb cb k3 k4;go_wp2
  refine bodyPost_ret (v:=.tuple #[.agg #[.slice none 0 0,.slice none 0 0],.int .i64 t]) (by simp[results,Tryz.results52,go_sem,y0,y1]) rfl ?_
  exact⟨none,0,0,none,0,0,rfl,devAt_none _,fresh_none _,K.out⟩
end Go.Proofs.YtdnacpbgodooaaaGreatDoor
namespace Go.Proofs.YtdnacpbgodooaaaGreatDoor
open Go.RowKit Go.Lib
theorem Z2F (no:Int) (s0 s:ByteArray) (l0:Bool) (pn ps:Nat) (w:World) (hn:w.cell? ⟨pn,0,none⟩=some (.int .i64 no)) (hs:w.cell? ⟨ps,0,none⟩=some (.string s)):
  Calls Tryz.prog 218 #[.string s0,.bool l0,.pointer (some ⟨pn,0,none⟩),.pointer (some ⟨ps,0,none⟩)] w fun e w'=>e=.returned (.tuple #[.string (str (encd no s.data.toList).1),.bool false,.int .i64 (encd no s.data.toList).2])∧Below w.heap.size w w':=by
 have HE:=hid (TI no s w);generalize encd no s.data.toList=r at HE;go_enter Tryz.func218,Tryz.ntmps218
 go_wp2_with fail
 refine HE.out.mono ?_
 rintro _ w1 ⟨rfl,g1⟩;go_wp2
 go_ret3
 exact⟨rfl,g1⟩
theorem Z4N (s:ByteArray) (l:Bool) (w:World):
  Calls Tryz.prog 53 #[.string s,.bool l] w fun e w'=>e=.returned (.tuple #[.string s,.bool true,.int .i64 0])∧Below w.heap.size w w':=by
 go_enter Tryz.func53,Tryz.ntmps53
 go_wp2
 go_ret3
 exact⟨rfl,Below.refl _ _⟩
theorem Z5g (no:Int) (l:List UInt8):(str (encd no l).1).size<=281474976710656:=by
 rw[str_size];unfold encd
 split
 ·simp
 ·split
  ·simp
  ·rename_i h2
   have:l.length<=24:=by omega
   show (sealed (body no l)).length<=_
   rw[sealed_length,XP no l this];omega
theorem WZ (a:Option Addr) (n c:Nat) (a':Option Addr) (m c':Nat) (i no:Int) (s:ByteArray) (D:Dv) (w:World) (h:Zc w a n a' m D):
  Calls Tryz.prog 197 #[.agg #[.slice a n c,.slice a' m c'],.int .i64 i,.int .i64 no,.string s] w (OutE w (dvWrite D i no s.data.toList)):=by
 obtain⟨W,hW⟩:∃ W,W=(((w.alloc (.cells #[.slice a n c,.slice a' m c'] 56)).alloc (.cells #[.int .i64 no] 3)).alloc (.cells #[.string s] 9)).alloc (.cells #[.slice none 0 0,.slice none 0 0] 56):=⟨_,rfl⟩;have hB:Below w.heap.size w W:=by rw[hW]; go_grown
 have hz:W.heap.size=w.heap.size+4:=by rw[hW]; simp
 have cn:W.cell? ⟨w.heap.size+1,0,none⟩=some (.int .i64 no):=by rw[hW]; simp[go_sem]
 have cs:W.cell? ⟨w.heap.size+1+1,0,none⟩=some (.string s):=by rw[hW]; simp[go_sem]
 have rb:Box2 W (w.heap.size+1+1+1) (.slice none 0 0) (.slice none 0 0):=by rw[hW]; exact⟨by simp[go_sem],by simp[go_sem],by simp[go_sem],by simp[go_sem],by simp⟩
 have hC:=Yl a n c a' m c' i 218 #[.pointer (some ⟨w.heap.size+1,0,none⟩),.pointer (some ⟨w.heap.size+1+1,0,none⟩)] D (str (encd no s.data.toList).1,false,(encd no s.data.toList).2) W (h.below hB) (enters_of Tryz.func218 (by kernel_rfl) rfl) (Z5g no _)
  (fun _ w1 g1=>Z2F no _ s _ (w.heap.size+1) (w.heap.size+1+1) w1 ((g1.cell (p:=⟨w.heap.size+1,0,none⟩) (by show w.heap.size+1<W.heap.size; omega)).trans cn) ((g1.cell (p:=⟨w.heap.size+1+1,0,none⟩) (by show w.heap.size+1+1<W.heap.size; omega)).trans cs))
 change Calls _ _ _ _ (OutE W (dvWrite D i no s.data.toList)) at hC
 generalize dvWrite D i no s.data.toList=r at hC;have HE:=hid hW;rw[hW] at hC;have HC:=hid hC;have HP:=hid (And.intro hB (And.intro hz rb));clear hC hW hB hz cn cs rb h;go_enter Tryz.func197,Tryz.ntmps197
 go_wp2_with fail
 refine HC.out.mono ?_
 rintro _ w1 ⟨b,n1,c1,b',m1,c2,rfl,hD,hF,g1⟩;rw[<- HE.out] at hF g1;have rb1:=HP.out.2.2.below g1;have v0:=rb1.c0;have v1:=rb1.c1;have x0:=rb1.f0;have x1:=rb1.f1;obtain⟨y0,y1⟩:=Z6 (.slice b n1 c1) (.slice b' m1 c2) v0 v1;have K:=hid (W7 (p:=w.heap.size+1+1+1) (c:=c1) (c':=c2) hD hF (HP.out.1.trans (g1.mono HP.out.1.size)) (by omega) (by rw[HP.out.2.1]; omega) HP.out.1.size)
 clear hD hF g1 rb1;go_wp2
 refine bodyPost_ret (v:=.tuple #[.agg #[.slice b n1 c1,.slice b' m1 c2],.int .i64 r.2]) (by simp[results,Tryz.results197,go_sem,y0,y1]) rfl ?_
 exact⟨_,_,_,_,_,_,rfl,K.out.1,K.out.2.1,K.out.2.2⟩
theorem Z21 (a:Option Addr) (n c:Nat) (a':Option Addr) (m c':Nat) (i:Int) (D:Dv) (w:World) (h:Zc w a n a' m D):
  Calls Tryz.prog 22 #[.agg #[.slice a n c,.slice a' m c'],.int .i64 i] w (OutE w (dvLose D i)):=by
 obtain⟨W,hW⟩:∃ W,W=(w.alloc (.cells #[.slice a n c,.slice a' m c'] 56)).alloc (.cells #[.slice none 0 0,.slice none 0 0] 56):=⟨_,rfl⟩;have hB:Below w.heap.size w W:=by rw[hW]; go_grown
 have hz:W.heap.size=w.heap.size+2:=by rw[hW]; simp
 have rb:Box2 W (w.heap.size+1) (.slice none 0 0) (.slice none 0 0):=by rw[hW]; exact⟨by simp[go_sem],by simp[go_sem],by simp[go_sem],by simp[go_sem],by simp⟩
 have hC:Calls Tryz.prog 52 #[.agg #[.slice a n c,.slice a' m c'],.int .i64 i,.func (.func 53) #[] #[]] W (OutE W (dvLose D i)):=by
  by_cases ht:dvTouch D i=0
  ·obtain⟨hm,h0,h1,_⟩:=ZM D i ht
   exact Yl a n c a' m c' i 53 #[] D (sec D i.toNat,true,0) W (h.below hB) (enters_of Tryz.func53 (by kernel_rfl) rfl) (by rw[Yv D i.toNat hm (by omega)]; omega) (fun _ w1 _=>Z4N _ _ w1)
  ·have e:dvLose D i=dvChange D i (str [],true,0):=by rw[dvLose,dvChange,dvChange,if_neg ht,if_neg ht]
   rw[e];exact Yl a n c a' m c' i 53 #[] D (str [],true,0) W (h.below hB) (enters_of Tryz.func53 (by kernel_rfl) rfl) (by rw[str_size]; simp) (fun hh _ _=>absurd hh ht)
 generalize dvLose D i=r at hC;have HE:=hid hW;rw[hW] at hC;have HC:=hid hC;have HP:=hid (And.intro hB (And.intro hz rb));clear hC hW hB hz rb h;go_enter Tryz.func22,Tryz.ntmps22
 go_wp2_with fail
 refine HC.out.mono ?_
 rintro _ w1 ⟨b,n1,c1,b',m1,c2,rfl,hD,hF,g1⟩;rw[<- HE.out] at hF g1;have rb1:=HP.out.2.2.below g1;have v0:=rb1.c0;have v1:=rb1.c1;have x0:=rb1.f0;have x1:=rb1.f1;obtain⟨y0,y1⟩:=Z6 (.slice b n1 c1) (.slice b' m1 c2) v0 v1;have K:=hid (W7 (p:=w.heap.size+1) (c:=c1) (c':=c2) hD hF (HP.out.1.trans (g1.mono HP.out.1.size)) (by omega) (by rw[HP.out.2.1]; omega) HP.out.1.size)
 clear hD hF g1 rb1;go_wp2
 refine bodyPost_ret (v:=.tuple #[.agg #[.slice b n1 c1,.slice b' m1 c2],.int .i64 r.2]) (by simp[results,Tryz.results22,go_sem,y0,y1]) rfl ?_
 exact⟨_,_,_,_,_,_,rfl,K.out.1,K.out.2.1,K.out.2.2⟩
end Go.Proofs.YtdnacpbgodooaaaGreatDoor
namespace Go.Proofs.YtdnacpbgodooaaaGreatDoor
open Go.RowKit Go.Lib
def Z0v (s:ByteArray) (l:Bool) (place by_:Int):ByteArray × Bool × Int:=if 0<=place∧place<30∧0<=by_∧by_<=255 then (str (upBy s.data.toList place.toNat by_),l,0) else (str [],false,2)
theorem Z3S (place by_:Int) (s:ByteArray) (l:Bool) (pp pb:Nat) (w:World) (hp:w.cell? ⟨pp,0,none⟩=some (.int .i64 place)) (hb:w.cell? ⟨pb,0,none⟩=some (.int .i64 by_)) (h:¬ (0<=place∧place<30∧0<=by_∧by_<=255)):
  Calls Tryz.prog 54 #[.string s,.bool l,.pointer (some ⟨pp,0,none⟩),.pointer (some ⟨pb,0,none⟩)] w fun e w'=>e=.returned (.tuple #[.string (str []),.bool false,.int .i64 2])∧Below w.heap.size w w':=by
 by_cases h1:place<0
 ·clear h
  go_enter Tryz.func54,Tryz.ntmps54
  go_wp2
  go_ret3
  exact⟨rfl,Below.refl _ _⟩
 ·by_cases h2:30<=place
  ·clear h
   go_enter Tryz.func54,Tryz.ntmps54
   go_wp2
   go_ret3
   exact⟨rfl,Below.refl _ _⟩
  ·by_cases h3:by_<0
   ·clear h
    go_enter Tryz.func54,Tryz.ntmps54
    go_wp2
    go_ret3
    exact⟨rfl,Below.refl _ _⟩
   ·have h4:255<by_:=by omega
    clear h;go_enter Tryz.func54,Tryz.ntmps54
    go_wp2
    go_ret3
    exact⟨rfl,Below.refl _ _⟩
theorem Z3w (w wx:World) {v:Int} {k:Nat} {C:Array Value} (hx:∀ a,wx.cell? a=((w.alloc (.cells C 5 (C.size,C.size+1))).setCell ⟨w.heap.size,k,none⟩ (.int .u8 v)).cell? a) (s:ByteArray) (cap:Nat) (hk:k<s.size) (v0:0<=v) (v1:v<256) (hcell:∀ j (hj:j<s.size),C[j]?=some (.int .u8 (s[j].toNat:Int))):
  (convert 103 9 (.slice (some ⟨w.heap.size,0,none⟩) s.size cap)).run Tryz.prog wx=.ok (.string (str (s.data.toList.set k (byt v)))) wx:=by
 have hlen:(s.data.toList.set k (byt v)).length=s.size:=by rw[List.length_set,Array.length_toList]; rfl
 have h:=run_convert_bytes_back (P:=Tryz.prog) wx 103 9 5 ⟨w.heap.size,0,none⟩ cap (s.data.toList.set k (byt v)) Tryz.underlying103 Tryz.underlying5 Tryz.underlying9 (by
  intro j hj;have hj':j<s.size:=by rw[hlen] at hj; exact hj
  rw[hx,Addr.add_lit,Nat.zero_add,List.getElem_set]
  by_cases e:k=j
  ·subst e
   rw[World.cell?_setCell_same _ _ _ (u:=.int .u8 (s[k].toNat:Int)) (by rw[World.cell?_alloc_mark]; exact hcell k hk)]
   simp[byt_nat v v0 v1]
  ·rw[World.cell?_setCell_other _ _ _ _ (fun x=>e (congrArg Addr.off x)),World.cell?_alloc_mark,hcell j hj',if_neg e]
   rfl)
 rw[hlen] at h;exact h
theorem Z5Y (k:Nat) (by_:Int) (s:ByteArray) (l:Bool) (pp pb:Nat) (w:World) (hp:w.cell? ⟨pp,0,none⟩=some (.int .i64 k)) (hb:w.cell? ⟨pb,0,none⟩=some (.int .i64 by_)) (hpl:pp<w.heap.size) (hbl:pb<w.heap.size) (hs:s.size=30) (hk:k<30) (h0:0<=by_) (h1:by_<=255):
  Calls Tryz.prog 54 #[.string s,.bool l,.pointer (some ⟨pp,0,none⟩),.pointer (some ⟨pb,0,none⟩)] w fun e w'=>e=.returned (.tuple #[.string (str (upBy s.data.toList k by_)),.bool l,.int .i64 0])∧Below w.heap.size w w':=by
 have hconv:=run_bytes_of_string (P:=Tryz.prog) w 9 103 5 s Tryz.underlying9 Tryz.underlying103 Tryz.underlying5;generalize grownCap w s.size 0 5=cap at hconv;obtain⟨C,hC,hsz,hcell⟩:=Qb s cap;rw[hC] at hconv;clear hC;have hks:k<s.size:=by omega
 have hl:(w.alloc (.cells C 5 (C.size,C.size+1))).cell? ⟨w.heap.size,k,none⟩=some (.int .u8 (s[k].toNat:Int)):=by rw[World.cell?_alloc_mark]; exact hcell k hks
 have hf:(w.alloc (.cells C 5 (C.size,C.size+1))).frozen? ⟨w.heap.size,k,none⟩=false:=by rw[World.frozen?_alloc_mark]; simp; omega
 have b1:(s[k].toNat:Int)<=255:=by have:=s[k].toNat_lt; omega
 have b0:0<=(s[k].toNat:Int):=by omega
 have hback:=Z3w w ((w.alloc (.cells C 5 (C.size,C.size+1))).setCell ⟨w.heap.size,k,none⟩ (.int .u8 (((s[k].toNat:Int)+by_) % 256))).drew.drew (fun _=>rfl) s cap hks (by omega) (by omega) hcell
 have hup:upBy s.data.toList k by_=s.data.toList.set k (byt (((s[k].toNat:Int)+by_) % 256)):=by rw[upBy,XY s k hks]
 have hb0:Below w.heap.size w (w.alloc (.cells C 5 (C.size,C.size+1))):=(Below.refl _ w).alloc (Nat.le_refl _) _;have c1:(w.alloc (.cells C 5 (C.size,C.size+1))).cell? ⟨pp,0,none⟩=some (.int .i64 k):=(hb0.cell (p:=⟨pp,0,none⟩) hpl).trans hp
 have c2:(w.alloc (.cells C 5 (C.size,C.size+1))).cell? ⟨pb,0,none⟩=some (.int .i64 by_):=(hb0.cell (p:=⟨pb,0,none⟩) hbl).trans hb
 have u1:IntKind.u8.wrap by_=by_:=by rw[IntKind.wrap_u8]; omega
 have u2:IntKind.u8.wrap ((s[k].toNat:Int)+by_)=((s[k].toNat:Int)+by_) % 256:=IntKind.wrap_u8 _;have e1:¬ (k:Int)<0:=by omega
 have e2:¬ (30:Int)<=k:=by omega
 have e3:(k:Int)<s.size:=by omega
 have e4:¬ (255:Int)<by_:=by omega
 have e5:¬ by_<0:=by omega
 rw[hup];have HB:=hid hb0;clear hcell hup hb0 hs hsz;go_enter Tryz.func54,Tryz.ntmps54
 go_wp2_with fail
 go_region
 all_goals go_wp2
 all_goals go_ret3
 all_goals exact⟨rfl,(HB.out.setCell (Nat.le_refl _) _).drew.drew⟩
theorem Z3T (place by_:Int) (s:ByteArray) (l:Bool) (pp pb:Nat) (w:World) (hp:w.cell? ⟨pp,0,none⟩=some (.int .i64 place)) (hb:w.cell? ⟨pb,0,none⟩=some (.int .i64 by_)) (hpl:pp<w.heap.size) (hbl:pb<w.heap.size) (hs:s.size=30):
  Calls Tryz.prog 54 #[.string s,.bool l,.pointer (some ⟨pp,0,none⟩),.pointer (some ⟨pb,0,none⟩)] w fun e w'=>e=.returned (.tuple #[.string (Z0v s l place by_).1,.bool (Z0v s l place by_).2.1,.int .i64 (Z0v s l place by_).2.2])∧Below w.heap.size w w':=by
 unfold Z0v
 by_cases h:0<=place∧place<30∧0<=by_∧by_<=255
 ·rw[if_pos h]
  obtain⟨k,rfl⟩:∃ k:Nat,place=k:=⟨place.toNat,by omega⟩
  have hto:(k:Int).toNat=k:=by omega
  rw[hto];exact Z5Y k by_ s l pp pb w hp hb hpl hbl hs (by omega) h.2.2.1 h.2.2.2
 ·rw[if_neg h]
  exact Z3S place by_ s l pp pb w hp hb h
theorem Z2I (s:ByteArray) (l:Bool) (place by_:Int) (hs:s.size=30):(Z0v s l place by_).1.size<=281474976710656:=by
 unfold Z0v
 split
 ·show (str _).size<=_
  rw[str_size,upBy,List.length_set,ba_len]; omega
 ·show (str _).size<=_
  rw[str_size]; simp
theorem Z5X (a:Option Addr) (n c:Nat) (a':Option Addr) (m c':Nat) (i place by_:Int) (D:Dv) (w:World) (h:Zc w a n a' m D):
  Calls Tryz.prog 24 #[.agg #[.slice a n c,.slice a' m c'],.int .i64 i,.int .i64 place,.int .i64 by_] w (OutE w (dvTurn D i place by_)):=by
 obtain⟨W,hW⟩:∃ W,W=(((w.alloc (.cells #[.slice a n c,.slice a' m c'] 56)).alloc (.cells #[.int .i64 place] 3)).alloc (.cells #[.int .i64 by_] 3)).alloc (.cells #[.slice none 0 0,.slice none 0 0] 56):=⟨_,rfl⟩;have hB:Below w.heap.size w W:=by rw[hW]; go_grown
 have hz:W.heap.size=w.heap.size+4:=by rw[hW]; simp
 have cn:W.cell? ⟨w.heap.size+1,0,none⟩=some (.int .i64 place):=by rw[hW]; simp[go_sem]
 have cs:W.cell? ⟨w.heap.size+1+1,0,none⟩=some (.int .i64 by_):=by rw[hW]; simp[go_sem]
 have rb:Box2 W (w.heap.size+1+1+1) (.slice none 0 0) (.slice none 0 0):=by rw[hW]; exact⟨by simp[go_sem],by simp[go_sem],by simp[go_sem],by simp[go_sem],by simp⟩
 have hC:Calls Tryz.prog 52 #[.agg #[.slice a n c,.slice a' m c'],.int .i64 i,.func (.func 54) #[] #[.pointer (some ⟨w.heap.size+1,0,none⟩),.pointer (some ⟨w.heap.size+1+1,0,none⟩)]] W (OutE W (dvTurn D i place by_)):=by
  by_cases ht:dvTouch D i=0
  ·obtain⟨hm,h0,h1,_⟩:=ZM D i ht
   have hz30:=Yv D i.toNat hm (by omega)
   exact Yl a n c a' m c' i 54 #[.pointer (some ⟨w.heap.size+1,0,none⟩),.pointer (some ⟨w.heap.size+1+1,0,none⟩)] D (Z0v (sec D i.toNat) (los D i.toNat) place by_) W (h.below hB) (enters_of Tryz.func54 (by kernel_rfl) rfl) (Z2I _ _ _ _ hz30)
    (fun _ w1 g1=>Z3T place by_ _ _ (w.heap.size+1) (w.heap.size+1+1) w1 ((g1.cell (p:=⟨w.heap.size+1,0,none⟩) (by show w.heap.size+1<W.heap.size; omega)).trans cn) ((g1.cell (p:=⟨w.heap.size+1+1,0,none⟩) (by show w.heap.size+1+1<W.heap.size; omega)).trans cs) (by have:=g1.size; omega) (by have:=g1.size; omega) hz30)
  ·have e:dvTurn D i place by_=dvChange D i (str [],true,0):=by rw[dvTurn,dvChange,dvChange,if_neg ht,if_neg ht]
   rw[e];exact Yl a n c a' m c' i 54 _ D (str [],true,0) W (h.below hB) (enters_of Tryz.func54 (by kernel_rfl) rfl) (by rw[str_size]; simp) (fun hh _ _=>absurd hh ht)
 generalize dvTurn D i place by_=r at hC;have HE:=hid hW;rw[hW] at hC;have HC:=hid hC;have HP:=hid (And.intro hB (And.intro hz rb));clear hC hW hB hz cn cs rb h;go_enter Tryz.func24,Tryz.ntmps24
 go_wp2_with fail
 refine HC.out.mono ?_
 rintro _ w1 ⟨b,n1,c1,b',m1,c2,rfl,hD,hF,g1⟩;rw[<- HE.out] at hF g1;have rb1:=HP.out.2.2.below g1;have v0:=rb1.c0;have v1:=rb1.c1;have x0:=rb1.f0;have x1:=rb1.f1;obtain⟨y0,y1⟩:=Z6 (.slice b n1 c1) (.slice b' m1 c2) v0 v1;have K:=hid (W7 (p:=w.heap.size+1+1+1) (c:=c1) (c':=c2) hD hF (HP.out.1.trans (g1.mono HP.out.1.size)) (by omega) (by rw[HP.out.2.1]; omega) HP.out.1.size)
 clear hD hF g1 rb1;go_wp2
 refine bodyPost_ret (v:=.tuple #[.agg #[.slice b n1 c1,.slice b' m1 c2],.int .i64 r.2]) (by simp[results,Tryz.results24,go_sem,y0,y1]) rfl ?_
 exact⟨_,_,_,_,_,_,rfl,K.out.1,K.out.2.1,K.out.2.2⟩
end Go.Proofs.YtdnacpbgodooaaaGreatDoor
