import Derived.Test.YtdnacpbgodooaaaGreatDoorSectorDec
import Derived.Test.YtdnacpbgodooaaaGreatDoorDevA
set_option maxHeartbeats 1600000
set_option maxRecDepth 4000
namespace Go.Proofs.YtdnacpbgodooaaaGreatDoor
open Go.RowKit Go.Lib
theorem Z24:(Tryz.prog.info? 9).map (fun i=>(i.zero,i.size,i.bytes))=some (some (.string ⟨#[]⟩),1,16):=by kernel_rfl
theorem UQ:(Tryz.prog.info? 4).map (fun i=>(i.zero,i.size,i.bytes))=some (some (.bool false),1,1):=by kernel_rfl
structure But (b:Nat) (w w':World):Prop where
 os:w'.os=w.os
 tape:w'.tape=w.tape
 output:w'.output=w.output
 size:w'.heap.size=w.heap.size
 block:∀ k,k≠b->w'.heap[k]?=w.heap[k]?
theorem But.below {b B:Nat} {w w':World} (h:But b w w') (hb:B<=b):Below B w w':=⟨h.os,h.tape,h.output,by rw[h.size]; exact Nat.le_refl _,fun k hk=>h.block k (by omega)⟩
theorem Qo (z:Value) (n:Nat):madeCells #[z] n=(List.replicate n z).toArray:=by
 apply Array.ext'
 apply List.ext_getElem
 ·simp[madeCells]
 ·intro i h1 h2
  simp[madeCells,Nat.mod_one]
theorem Z6Y (w:World) (b m c' ty:Nat) (a':Option Addr) (V cs:List Value) (ho:Own w b 4 V) (hV:V.length=m) (hc:cs.length=m) (hr:Zd w a' cs) (h1:∀ v∈cs,v.oneCell'=true):
  ∃ w',(Builtin.copy_ #[54,54] ty #[.slice (some ⟨b,0,none⟩) m m,.slice a' m c']).run Tryz.prog w=.ok (goInt m) w'∧Own w' b 4 cs∧But b w w':=by
 by_cases h0:m=0
 ·subst h0
  obtain rfl:cs=[]:=List.eq_nil_of_length_eq_zero hc;obtain rfl:V=[]:=List.eq_nil_of_length_eq_zero hV;exact⟨w,run_copy_none w _ _ _ 4 _ _ _ _ _ _ Tryz.underlying54 (by kernel_rfl) rfl,ho,⟨rfl,rfl,rfl,rfl,fun _ _=>rfl⟩⟩
 ·obtain⟨p,o,rfl,hp,_⟩:=hr 0 (cs[0]'(by omega)) (List.getElem?_eq_getElem (by omega))
  obtain⟨R,hR⟩:=ho
  have:=run_copy_row (P:=Tryz.prog) w 54 54 ty 4 b 0 m m ⟨p,o,none⟩ m c' (V++R).toArray 4 cs Tryz.underlying54 (by kernel_rfl) hR (by rw[hc]; exact (Nat.min_self m).symm) (fun j v hj=>by
   obtain⟨p2,o2,e,_,hcell⟩:=hr j v hj;cases e
   rw[Addr.add_lit]; exact hcell) (by simp; omega) h1
  rw[hc] at this;refine⟨_,this,⟨R,?_⟩,⟨rfl,rfl,rfl,by simp[World.setRow],fun k hk=>setRow_other _ _ _ _ hk⟩⟩
  rw[setRow_heap w b _ _ 4 (0,0) hR];simp[<- hV]
structure WW (w0:World) (B:Nat) (d1 d2:Value) (p b b' n m:Nat) (V V':List Value) (w:World):Prop where
 box:Own w B 56 [d1,d2]
 res:Own w (B+1) 56 [.slice none 0 0,.slice none 0 0]
 cbox:Own w p 56 [.slice (some ⟨b,0,none⟩) n n,.slice (some ⟨b',0,none⟩) m m]
 s:Own w b 9 V
 l:Own w b' 4 V'
 ge:B+2<=p∧B+2<=b∧B+2<=b'
 ne:p≠b∧p≠b'∧b≠b'
 below:Below B w0 w
section
variable {w0 w w':World} {B p b b' n m:Nat} {d1 d2:Value} {V V':List Value}
theorem WW.drew (h:WW w0 B d1 d2 p b b' n m V V' w):WW w0 B d1 d2 p b b' n m V V' w.drew:=⟨h.box.drew,h.res.drew,h.cbox.drew,h.s.drew,h.l.drew,h.ge,h.ne,h.below.drew⟩
theorem WW.to (h:WW w0 B d1 d2 p b b' n m V V' w) (g:Below w.heap.size w w'):WW w0 B d1 d2 p b b' n m V V' w':=
 ⟨h.box.below' g,h.res.below' g,h.cbox.below' g,h.s.below' g,h.l.below' g,h.ge,h.ne,h.below.trans (g.mono (Nat.le_of_lt h.box.lt))⟩
theorem WW.step (h:WW w0 B d1 d2 p b b' n m V V' w) {k:Nat} (hk:k<V.length) (v:Value):WW w0 B d1 d2 p b b' n m (V.set k v) V' (w.setCell ⟨b,k,none⟩ v):=by
 obtain⟨g1,g2,g3⟩:=h.ge;obtain⟨n1,n2,n3⟩:=h.ne;exact⟨h.box.other (by show B≠b; omega) v,h.res.other (by show B+1≠b; omega) v,h.cbox.other (by show p≠b; omega) v,h.s.set hk v,h.l.other (by show b'≠b; omega) v,h.ge,h.ne,h.below.setCell (by show B<=b; omega) v⟩
theorem WW.but (h:WW w0 B d1 d2 p b b' n m V V' w) {U:List Value} (ho:Own w' b' 4 U) (hb:But b' w w'):WW w0 B d1 d2 p b b' n m V U w':=by
 obtain⟨g1,g2,g3⟩:=h.ge;obtain⟨n1,n2,n3⟩:=h.ne;exact⟨h.box.of_block (hb.block _ (by omega)),h.res.of_block (hb.block _ (by omega)),h.cbox.of_block (hb.block _ (by omega)),h.s.of_block (hb.block _ (by omega)),ho,h.ge,h.ne,h.below.trans (hb.below (by omega))⟩
end
def half (S:List ByteArray) (k:Nat):List Value:=(S.take k).map .string++List.replicate (S.length-k) (.string ⟨#[]⟩)
theorem Qy (S:List ByteArray) (k:Nat) (h:k<=S.length):(half S k).length=S.length:=by simp[half]; omega
theorem JV (S:List ByteArray) (k:Nat) (h:k<S.length):(half S k).set k (.string S[k])=half S (k+1):=by
 unfold half;rw[List.set_append_right _ _ (by simp; omega),show S.length-k=(S.length-(k+1))+1 by omega,List.replicate_succ]
 have e:k-(List.map Value.string (List.take k S)).length=0:=by simp; omega
 rw[e,List.set_cons_zero,List.take_succ_eq_append_getElem h,List.map_append,List.append_assoc]
 rfl
theorem Z51 (S:List ByteArray) (k:Nat) (h:k<S.length):∃ v,(half S k)[k]?=some v:=by
 exact⟨_,List.getElem?_eq_getElem (by rw[Qy S k (by omega)]; exact h)⟩
theorem Z2b (S:List ByteArray):half S S.length=S.map .string:=by simp[half]
theorem JW (S:List ByteArray):half S 0=List.replicate S.length (.string ⟨#[]⟩):=by simp[half]
theorem Z1l {W:World} {w0:World} {B n m p b b':Nat} {d1 d2:Value} {S:List ByteArray} (hn:n=S.length) (hB:Below B w0 W) (_hs:W.heap.size=B+2) (h1:Own W B 56 [d1,d2]) (h2:Own W (B+1) 56 [.slice none 0 0,.slice none 0 0])
  {w':World} (hb:Below (B+2) W w') (hg:B+2<=p∧B+2<=b∧B+2<=b') (hne:p≠b∧p≠b'∧b≠b')
  (hp:w'.heap[p]?=some (.cells #[.slice (some ⟨b,0,none⟩) n n,.slice (some ⟨b',0,none⟩) m m] 56 (0,0)))
  (hbs:w'.heap[b]?=some (.cells (Array.replicate n (.string ⟨#[]⟩)) 9 (0,0))) (hbl:w'.heap[b']?=some (.cells (Array.replicate m (.bool false)) 4 (0,0))):
  WW w0 B d1 d2 p b b' n m (half S 0) (List.replicate m (.bool false)) w':=by
 refine⟨h1.below hb (by omega),h2.below hb (by omega),⟨[],hp⟩,⟨[],?_⟩,⟨[],?_⟩,hg,hne,hB.trans (hb.mono (by omega))⟩
 ·rw[JW,<- hn,List.append_nil,List.toArray_replicate]; exact hbs
 ·rw[List.append_nil,List.toArray_replicate]; exact hbl
theorem three (W:World) (B:Nat) (hs:W.heap.size=B+2) (o1 o2 o3:Obj):(((W.alloc o1).alloc o2).alloc o3).drew.heap[B+1+1]?=some o1∧(((W.alloc o1).alloc o2).alloc o3).drew.heap[B+1+1+1]?=some o2∧(((W.alloc o1).alloc o2).alloc o3).drew.heap[B+1+1+1+1]?=some o3∧Below (B+2) W (((W.alloc o1).alloc o2).alloc o3).drew:=by
 have z1:(W.alloc o1).heap.size=B+3:=by simp[hs]
 have z2:((W.alloc o1).alloc o2).heap.size=B+4:=by simp[hs]
 show (((W.alloc o1).alloc o2).alloc o3).heap[B+2]?=some o1∧(((W.alloc o1).alloc o2).alloc o3).heap[B+3]?=some o2∧(((W.alloc o1).alloc o2).alloc o3).heap[B+4]?=some o3∧_
 refine⟨?_,?_,?_,((((Below.refl _ W).alloc (by omega) o1).alloc (by omega) o2).alloc (by omega) o3).drew⟩
 ·rw[Below.heap_alloc _ _ _ (by omega),Below.heap_alloc _ _ _ (by omega),<- hs]; exact heap_alloc_new W _
 ·rw[Below.heap_alloc _ _ _ (by omega),<- z1]; exact heap_alloc_new _ _
 ·rw[<- z2]; exact heap_alloc_new _ _
theorem Z2l (a:Option Addr) (n c:Nat) (a':Option Addr) (m c':Nat) (D:Dv) (w:World) (h:Zc w a n a' m D) (hn:16*n<=281474976710656) (hm:m<=281474976710656) (hs:∀ s∈D.1,s.size<=281474976710656):
  Calls Tryz.prog 105 #[.agg #[.slice a n c,.slice a' m c']] w fun e w'=>∃ b b',e=.returned (.agg #[.slice (some ⟨b,0,none⟩) n n,.slice (some ⟨b',0,none⟩) m m])∧w.heap.size<=b∧w.heap.size<=b'∧b≠b'∧Own w' b 9 (D.1.map .string)∧Own w' b' 4 (D.2.map .bool)∧Below w.heap.size w w':=by
 obtain⟨W,hW⟩:∃ W,W=(w.alloc (.cells #[.slice a n c,.slice a' m c'] 56)).alloc (.cells #[.slice none 0 0,.slice none 0 0] 56):=⟨_,rfl⟩;have hz:W.heap.size=w.heap.size+2:=by rw[hW]; simp
 have hB:Below w.heap.size w W:=by rw[hW]; go_grown
 have k1:Own W w.heap.size 56 [.slice a n c,.slice a' m c']:=by rw[hW]; exact (Own.made w 56 [.slice a n c,.slice a' m c']).alloc _
 have k2:Own W (w.heap.size+1) 56 [.slice none 0 0,.slice none 0 0]:=by
  have:=Own.made (w.alloc (.cells #[.slice a n c,.slice a' m c'] 56)) 56 [.slice none 0 0,.slice none 0 0]
  rw[show (w.alloc (.cells #[.slice a n c,.slice a' m c'] 56)).heap.size=w.heap.size+1 by simp] at this
  rw[hW]; exact this
 have c1:W.cell? ⟨w.heap.size,0,none⟩=some (.slice a n c):=k1.cell rfl
 have c2:W.cell? ⟨w.heap.size,1,none⟩=some (.slice a' m c'):=k1.cell rfl
 have HW:=hid (And.intro hz (And.intro hB (And.intro k1 (And.intro k2 hW))));have mk1:=run_make_row' (P:=Tryz.prog) 31 9 (.string ⟨#[]⟩) 16 Tryz.underlying31 Z24 rfl .i64 .i64 n hn (by omega)
 have mk2:=run_make_row' (P:=Tryz.prog) 54 4 (.bool false) 1 Tryz.underlying54 UQ rfl .i64 .i64 m (by omega) (by omega)
 rw[Qo] at mk1 mk2;have HD:=hid h;have HS:=hid hs;have hsn:=h.sn;have HN:=hid hsn;clear hz hB k1 k2 h hs hsn;go_enter Tryz.func105,Tryz.ntmps105
 clear hW c1 c2;go_upto_region 1 with fail
 go_cut [3] (fun s3 wx=>∃ p b b',s3=.pointer (some ⟨p,0,none⟩)∧WW w w.heap.size (.slice a n c) (.slice a' m c') p b b' n m (half D.1 0) (List.replicate m (.bool false)) wx)
 case first=>
  go_region
  all_goals (go_wp2_with fail; go_meet)
  all_goals (obtain⟨hz,hB,k1,k2,hW⟩:=HW.out; rw[<- hW]; apply Exists.intro; apply Exists.intro; apply Exists.intro; refine⟨rfl,?_⟩; apply Z1l HN.out hB hz k1 k2 (three W w.heap.size hz _ _ _).2.2.2; (case hp=>(first | exact (three W w.heap.size hz _ _ _).1 | exact (three W w.heap.size hz _ _ _).2.1 | exact (three W w.heap.size hz _ _ _).2.2.1)); (case hbs=>(first | exact (three W w.heap.size hz _ _ _).1 | exact (three W w.heap.size hz _ _ _).2.1 | exact (three W w.heap.size hz _ _ _).2.2.1)); (case hbl=>(first | exact (three W w.heap.size hz _ _ _).1 | exact (three W w.heap.size hz _ _ _).2.1 | exact (three W w.heap.size hz _ _ _).2.2.1)); (case hg=>omega); (case hne=>omega))
 case rest=>
  obtain⟨p,b,b',rfl,hI⟩:=hcut;have HD':=hid (HD.out.below ((Below.refl _ w)));clear HW mk1 mk2;have c1:=hI.box.cell (i:=0) rfl;have HI:=hid hI;clear hI;go_wp2_with fail
  clear c1;go_loopw [18] (fun i wr=>∃ k:Nat,k<=n∧i=.int .i64 k∧WW w w.heap.size (.slice a n c) (.slice a' m c') p b b' n m (half D.1 k) (List.replicate m (.bool false)) wr) (fun i _=>n-(intOf i).toNat)
  case atStart=>exact⟨0,Nat.zero_le _,rfl,HI.out⟩
  case round=>
   obtain⟨k,hk,rfl,hI⟩:=hrel;clear HI
   by_cases hlt:k<n
   ·have hlt':(k:Int)<n:=by omega
    obtain⟨q,o,rfl,hq,hc⟩:=(HD.out.below (hI.below.mono (Nat.le_refl _))).sector k hlt;have hS:k<D.1.length:=by rw[<- HN.out]; exact hlt
    obtain⟨v,hv⟩:=Z51 D.1 k hS;have HC:=hid (fun wx=>Wi (sec D k) wx (HS.out _ (by rw[sec_lt D k hS]; exact List.getElem_mem hS)))
    have HI:=hid hI;have HV:=hid hv;have HE:=hid (show (half D.1 k).set k (.string (sec D k))=half D.1 (k+1) by rw[sec_lt D k hS]; exact JV D.1 k hS)
    clear hI hv;generalize sec D k=s at hc HC HE;have cb:=HI.out.cbox.cell (i:=0) rfl;have cv:=HI.out.s.cell HV.out;have cf:=HI.out.s.free k;go_wp2_with fail
    go_region_with (go_at_call 108; refine (HC.out _).mono ?_; rintro _ w5 ⟨rfl,g5⟩; have HI5:=hid (HI.out.drew.to g5); have cb5:=HI5.out.cbox.cell (i:=0) rfl; have cv5:=HI5.out.s.cell HV.out; have cf5:=HI5.out.s.free k)
    all_goals clear cb cv cf cb5 cv5 cf5
    all_goals go_wp2
    all_goals go_roundw
    all_goals (first | (case rel=>exact⟨k+1,by omega,by go_num,by rw[<- HE.out]; exact HI5.out.step (by rw[Qy D.1 k (by omega)]; exact hS) _⟩) | skip)
    all_goals (simp[intOf]; omega)
   ·obtain rfl:k=n:=by omega
    have hnl:¬ (k:Int)<k:=by omega
    have hb0:=HD.out.below hI.below;obtain⟨w6,hcp,ho6,hb6⟩:=Z6Y wr b' m c' 3 a' _ (D.2.map .bool) hI.l (by simp) (by rw[List.length_map,HD.out.sm]) hb0.L (by
     intro v hv;obtain⟨x,_,rfl⟩:=List.mem_map.1 hv
     rfl)
    have hI6:=hI.but ho6 hb6;have cb:=hI.cbox.cell (i:=1) rfl;have cd:=hI.box.cell (i:=1) rfl;have e0:=hI6.cbox.cell (i:=0) rfl;have e1:=hI6.cbox.cell (i:=1) rfl;have r0:=hI6.res.cell (i:=0) rfl;have r1:=hI6.res.cell (i:=1) rfl;have f0:=hI6.res.free 0;have f1:=hI6.res.free 1;have HI6:=hid hI6;clear hI ho6 hb6 hb0 hI6;obtain⟨y0,y1⟩:=Z6 (.slice (some ⟨b,0,none⟩) k k) (.slice (some ⟨b',0,none⟩) m m) r0 r1;go_wp2
    refine bodyPost_ret (v:=.agg #[.slice (some ⟨b,0,none⟩) k k,.slice (some ⟨b',0,none⟩) m m]) (by simp[results,Tryz.results105,go_sem,y0,y1]) rfl ?_
    obtain⟨g1,g2,g3⟩:=HI6.out.ge;obtain⟨n1,n2,n3⟩:=HI6.out.ne;refine⟨b,b',rfl,by omega,by omega,n3,?_,(HI6.out.l.other (by show b'≠w.heap.size+1; omega) _).other (by show b'≠w.heap.size+1; omega) _,(HI6.out.below.setCell (by show w.heap.size<=w.heap.size+1; omega) _).setCell (by show w.heap.size<=w.heap.size+1; omega) _⟩
    have:=(HI6.out.s.other (p:=⟨w.heap.size+1,0,none⟩) (by show b≠w.heap.size+1; omega) (.slice (some ⟨b,0,none⟩) k k)).other (p:=⟨w.heap.size+1,1,none⟩) (by show b≠w.heap.size+1; omega) (.slice (some ⟨b',0,none⟩) m m)
    rw[show half D.1 k=D.1.map .string by rw[HN.out]; exact Z2b D.1] at this
    exact this
end Go.Proofs.YtdnacpbgodooaaaGreatDoor
namespace Go.Proofs.YtdnacpbgodooaaaGreatDoor
open Go.RowKit Go.Lib
def readE (no:Int) (s:ByteArray) (l:Bool):List UInt8 × Int:=if l=true then ([],11) else decd no s.data.toList
theorem Z4l (no:Int) (s:ByteArray) (l:Bool) (pn pp:Nat) (w:World) (hn:w.cell? ⟨pn,0,none⟩=some (.int .i64 no)) (hp:w.cell? ⟨pp,0,none⟩=some (.string (str []))) (hf:w.frozen? ⟨pp,0,none⟩=false) (hlt:pp<w.heap.size):
  Calls Tryz.prog 169 #[.string s,.bool l,.pointer (some ⟨pn,0,none⟩),.pointer (some ⟨pp,0,none⟩)] w fun e w'=>∃ x,e=.returned (.int .i64 x)∧(x=(readE no s l).2∧w'.cell? ⟨pp,0,none⟩=some (.string (str (readE no s l).1))∧Below pp w w'):=by
 unfold readE;cases l with
 | true=>
  rw[if_pos rfl];go_enter Tryz.func169,Tryz.ntmps169
  go_wp2
  go_ret
  exact⟨11,rfl,rfl,hp,Below.refl _ _⟩
 | false=>
  rw[if_neg (by decide)]
  have HD:=hid (Z3u no s w);generalize decd no s.data.toList=r at HD;have HP:=hid (And.intro hp (And.intro hf hlt));clear hp hf hlt;go_enter Tryz.func169,Tryz.ntmps169
  go_wp2_with fail
  refine HD.out.mono ?_
  rintro _ w1 ⟨rfl,g1⟩;have c1:=(g1.cell (p:=⟨pp,0,none⟩) HP.out.2.2).trans HP.out.1;have c2:=(g1.frozen (p:=⟨pp,0,none⟩) HP.out.2.2).trans HP.out.2.1;go_wp2
  go_ret
  exact⟨r.2,rfl,rfl,World.cell?_setCell_same _ _ _ c1,(g1.mono (Nat.le_of_lt HP.out.2.2)).setCell (Nat.le_refl _) _⟩
theorem Z7I (D:Dv) (k:Nat) (no:Int) (h:dvTouch D k=0):dvRead D k no=readE no (sec D k) (los D k):=by
 rw[dvRead,if_pos h,readE]
 simp
theorem Va (a:Option Addr) (n c:Nat) (a':Option Addr) (m c':Nat) (i no:Int) (D:Dv) (w:World) (h:Zc w a n a' m D):
  Calls Tryz.prog 114 #[.agg #[.slice a n c,.slice a' m c'],.int .i64 i,.int .i64 no] w fun e w'=>e=.returned (.tuple #[.string (str (dvRead D i no).1),.int .i64 (dvRead D i no).2])∧Below w.heap.size w w':=by
 obtain⟨W,hW⟩:∃ W,W=((w.alloc (.cells #[.slice a n c,.slice a' m c'] 56)).alloc (.cells #[.int .i64 no] 3)).alloc (.cells #[.string ⟨#[]⟩] 9):=⟨_,rfl⟩;have hB:Below w.heap.size w W:=by rw[hW]; go_grown
 have hz:W.heap.size=w.heap.size+3:=by rw[hW]; simp
 have cn:W.cell? ⟨w.heap.size+1,0,none⟩=some (.int .i64 no):=by rw[hW]; simp[go_sem]
 have cp:W.cell? ⟨w.heap.size+1+1,0,none⟩=some (.string (str [])):=by rw[hW]; simp[go_sem,str]
 have cf:W.frozen? ⟨w.heap.size+1+1,0,none⟩=false:=by rw[hW]; simp[go_sem]
 have HE:=hid hW;have hD:=h.below hB
 by_cases ht:dvTouch D i=0
 ·obtain⟨_,h0,h1,_⟩:=ZM D i ht
  obtain⟨k,rfl⟩:∃ k:Nat,i=k:=⟨i.toNat,by omega⟩
  rw[Z7I D k no ht];have hL:=Z15 a n c a' m c' k 169 #[.pointer (some ⟨w.heap.size+1,0,none⟩),.pointer (some ⟨w.heap.size+1+1,0,none⟩)] D W hD ht (enters_of Tryz.func169 (by kernel_rfl) rfl)
   (fun x w'=>x=(readE no (sec D k) (los D k)).2∧w'.cell? ⟨w.heap.size+1+1,0,none⟩=some (.string (str (readE no (sec D k) (los D k)).1))∧Below w.heap.size w w') (fun w1 g1=>by
    refine (Z4l no (sec D k) (los D k) (w.heap.size+1) (w.heap.size+1+1) w1 ((g1.cell (p:=⟨w.heap.size+1,0,none⟩) (by show w.heap.size+1<W.heap.size; omega)).trans cn) ((g1.cell (p:=⟨w.heap.size+1+1,0,none⟩) (by show w.heap.size+1+1<W.heap.size; omega)).trans cp)
     ((g1.frozen (p:=⟨w.heap.size+1+1,0,none⟩) (by show w.heap.size+1+1<W.heap.size; omega)).trans cf) (by have:=g1.size; omega)).mono ?_
    rintro e w2 ⟨x,hx,h2,h3,h4⟩;exact⟨x,hx,h2,h3,(hB.trans (g1.mono hB.size)).trans (h4.mono (by omega))⟩)
  rw[hW] at hL;have HL:=hid hL;clear hL hW hB hz cn cp cf hD h ht h0 h1;generalize readE no (sec D k) (los D k)=r at HL;go_enter Tryz.func114,Tryz.ntmps114
  go_wp2_with fail
  refine HL.out.mono ?_
  rintro _ w1 ⟨x,rfl,rfl,q1,q2⟩;go_wp2
  go_ret2
  exact⟨rfl,q2⟩
 ·have hr:dvRead D i no=([],dvTouch D i):=by rw[dvRead,if_neg ht]
  rw[hr];have hL:=Z23 a n c a' m c' i (.func (.func 169) #[] #[.pointer (some ⟨w.heap.size+1,0,none⟩),.pointer (some ⟨w.heap.size+1+1,0,none⟩)]) D W hD ht;have HP:=hid (And.intro hz (And.intro cp hB));rw[hW] at hL;have HL:=hid hL;clear hL hW hB hz cn cp cf hD h ht hr;generalize dvTouch D i=r at HL;go_enter Tryz.func114,Tryz.ntmps114
  go_wp2_with fail
  refine HL.out.mono ?_
  rintro _ w1 ⟨rfl,g1⟩;rw[<- HE.out] at g1;have c1:=(g1.cell (p:=⟨w.heap.size+1+1,0,none⟩) (by show w.heap.size+1+1<W.heap.size; rw[HP.out.1]; omega)).trans HP.out.2.1
  go_wp2
  go_ret2
  exact⟨rfl,HP.out.2.2.trans (g1.mono HP.out.2.2.size)⟩
end Go.Proofs.YtdnacpbgodooaaaGreatDoor
