import Derived.Test.YtdnacpbgodooaaaGreatDoorDevB
import Derived.Test.YtdnacpbgodooaaaGreatDoorCatNB
set_option maxHeartbeats 1600000
set_option maxRecDepth 4000
namespace Go.Proofs.YtdnacpbgodooaaaGreatDoor
open Go.RowKit Go.Lib
structure Box4 (w:World) (p:Nat) (d0 d1 d2 d3:Value):Prop where
 c0:w.cell? ⟨p,0,none⟩=some d0
 c1:w.cell? ⟨p,1,none⟩=some d1
 c2:w.cell? ⟨p,2,none⟩=some d2
 c3:w.cell? ⟨p,3,none⟩=some d3
 f0:w.frozen? ⟨p,0,none⟩=false
 f1:w.frozen? ⟨p,1,none⟩=false
 f2:w.frozen? ⟨p,2,none⟩=false
 f3:w.frozen? ⟨p,3,none⟩=false
 lt:p<w.heap.size
section
variable {w w':World} {p:Nat} {d0 d1 d2 d3:Value}
theorem Box4.below (h:Box4 w p d0 d1 d2 d3) (g:Below w.heap.size w w'):Box4 w' p d0 d1 d2 d3:=
 ⟨(g.cell (p:=⟨p,0,none⟩) h.lt).trans h.c0,(g.cell (p:=⟨p,1,none⟩) h.lt).trans h.c1,(g.cell (p:=⟨p,2,none⟩) h.lt).trans h.c2,(g.cell (p:=⟨p,3,none⟩) h.lt).trans h.c3,
  (g.frozen (p:=⟨p,0,none⟩) h.lt).trans h.f0,(g.frozen (p:=⟨p,1,none⟩) h.lt).trans h.f1,(g.frozen (p:=⟨p,2,none⟩) h.lt).trans h.f2,(g.frozen (p:=⟨p,3,none⟩) h.lt).trans h.f3,Nat.lt_of_lt_of_le h.lt g.size⟩
theorem VM {t:TypeId} (h:Own w p t [d0,d1,d2,d3]):Box4 w p d0 d1 d2 d3:=⟨h.cell rfl,h.cell rfl,h.cell rfl,h.cell rfl,h.free 0,h.free 1,h.free 2,h.free 3,h.lt⟩
theorem Box4.other (h:Box4 w p d0 d1 d2 d3) {q:Addr} (hq:p≠q.block) (v:Value):Box4 (w.setCell q v) p d0 d1 d2 d3:=by
 have e:(w.setCell q v).heap[p]?=w.heap[p]?:=Below.heap_setCell w q v p hq
 exact⟨(World.cell?_of_block (a:=⟨p,0,none⟩) e).trans h.c0,(World.cell?_of_block (a:=⟨p,1,none⟩) e).trans h.c1,(World.cell?_of_block (a:=⟨p,2,none⟩) e).trans h.c2,(World.cell?_of_block (a:=⟨p,3,none⟩) e).trans h.c3,
  (World.frozen?_of_block (a:=⟨p,0,none⟩) e).trans h.f0,(World.frozen?_of_block (a:=⟨p,1,none⟩) e).trans h.f1,(World.frozen?_of_block (a:=⟨p,2,none⟩) e).trans h.f2,(World.frozen?_of_block (a:=⟨p,3,none⟩) e).trans h.f3,by have:=h.lt; simpa[World.setCell] using this⟩
theorem Box4.ret (h:Box4 w p d0 d1 d2 d3) (v0 v1 v2 v3:Value):
  (w.setCell ⟨p,0,none⟩ v0).cell? ⟨p,0,none⟩=some v0∧((w.setCell ⟨p,0,none⟩ v0).setCell ⟨p,1,none⟩ v1).cell? ⟨p,1,none⟩=some v1 ∧
  (((w.setCell ⟨p,0,none⟩ v0).setCell ⟨p,1,none⟩ v1).setCell ⟨p,2,none⟩ v2).cell? ⟨p,2,none⟩=some v2∧((((w.setCell ⟨p,0,none⟩ v0).setCell ⟨p,1,none⟩ v1).setCell ⟨p,2,none⟩ v2).setCell ⟨p,3,none⟩ v3).cell? ⟨p,3,none⟩=some v3:=by
 refine⟨World.cell?_setCell_same _ _ _ h.c0,World.cell?_setCell_same _ _ _ (u:=d1) ?_,World.cell?_setCell_same _ _ _ (u:=d2) ?_,World.cell?_setCell_same _ _ _ (u:=d3) ?_⟩
 ·rw[World.cell?_setCell_other _ _ _ _ (by simp)]; exact h.c1
 ·rw[World.cell?_setCell_other _ _ _ _ (by simp),World.cell?_setCell_other _ _ _ _ (by simp)]; exact h.c2
 ·rw[World.cell?_setCell_other _ _ _ _ (by simp),World.cell?_setCell_other _ _ _ _ (by simp),World.cell?_setCell_other _ _ _ _ (by simp)]; exact h.c3
end
theorem Below.four {B:Nat} {w w':World} (g:Below B w w') {p:Nat} (hp:B<=p) (v0 v1 v2 v3:Value):Below B w ((((w'.setCell ⟨p,0,none⟩ v0).setCell ⟨p,1,none⟩ v1).setCell ⟨p,2,none⟩ v2).setCell ⟨p,3,none⟩ v3):=
 (((g.setCell (by exact hp) _).setCell (by exact hp) _).setCell (by exact hp) _).setCell (by exact hp) _
theorem Vs (x:En) (w:World) (h:x.s.size<=281474976710656):
  Calls Tryz.prog 103 #[.agg #[.string x.s,.int .i64 x.b,.int .i64 x.a,.int .i64 x.n]] w fun e w'=>e=.returned (.agg #[.string x.s,.int .i64 x.b,.int .i64 x.a,.int .i64 x.n])∧Below w.heap.size w w':=by
 obtain⟨s,b,a,n⟩:=x;obtain⟨W,hW⟩:∃ W,W=(w.alloc (.cells #[.string s,.int .i64 b,.int .i64 a,.int .i64 n] 95)).alloc (.cells #[.string ⟨#[]⟩,.int .i64 0,.int .i64 0,.int .i64 0] 95):=⟨_,rfl⟩;have hB:Below w.heap.size w W:=by rw[hW]; go_grown
 have k1:Own W w.heap.size 95 [.string s,.int .i64 b,.int .i64 a,.int .i64 n]:=by rw[hW]; exact (Own.made w 95 [.string s,.int .i64 b,.int .i64 a,.int .i64 n]).alloc _
 have k2:Own W (w.heap.size+1) 95 [.string ⟨#[]⟩,.int .i64 0,.int .i64 0,.int .i64 0]:=by
  have:=Own.made (w.alloc (.cells #[.string s,.int .i64 b,.int .i64 a,.int .i64 n] 95)) 95 [.string ⟨#[]⟩,.int .i64 0,.int .i64 0,.int .i64 0]
  rw[show (w.alloc (.cells #[.string s,.int .i64 b,.int .i64 a,.int .i64 n] 95)).heap.size=w.heap.size+1 by simp] at this
  rw[hW]; exact this
 have C:=Wi s W h;rw[hW] at C;have HC:=hid C;have HP:=hid (And.intro hB (And.intro (VM k1) (And.intro (VM k2) hW)));clear hB k1 k2 C hW;go_enter Tryz.func103,Tryz.ntmps103
 go_wp2_with fail
 refine HC.out.mono ?_
 rintro _ w1 ⟨rfl,g1⟩;rw[<- HP.out.2.2.2] at g1;have j1:=HP.out.2.1.below g1;have j2:=HP.out.2.2.1.below g1;have J:=hid (j2.other (q:=⟨w.heap.size,0,none⟩) (by show w.heap.size+1≠w.heap.size; omega) (.string s))
 obtain⟨c0,c1,c2,c3,f0,_,_,_,_⟩:=j1;obtain⟨r0,r1,r2,r3,q0,q1,q2,q3,_⟩:=j2;obtain⟨y0,y1,y2,y3⟩:=J.out.ret (.string s) (.int .i64 b) (.int .i64 a) (.int .i64 n);have z0:=World.cell?_setCell_same w1 ⟨w.heap.size,0,none⟩ (.string s) c0
 have G:=hid (HP.out.1.trans (g1.mono HP.out.1.size));clear g1 HC;go_wp2
 refine bodyPost_ret (v:=.agg #[.string s,.int .i64 b,.int .i64 a,.int .i64 n]) (by simp[results,Tryz.results103,go_sem,y0,y1,y2,y3]) rfl ?_
 exact⟨rfl,Below.four (G.out.setCell (by show w.heap.size<=w.heap.size; omega) _) (by omega) _ _ _ _⟩
theorem Z3U (x:En) (q:Nat) (s:ByteArray) (w:World) (hq:w.cell? ⟨q,0,none⟩=some (.string s)):
  Calls Tryz.prog 102 #[.agg #[.string x.s,.int .i64 x.b,.int .i64 x.a,.int .i64 x.n],.pointer (some ⟨q,0,none⟩)] w fun e w'=>e=.returned (.bool (x.s.toList==s.toList))∧Below w.heap.size w w':=by
 have hl:q<w.heap.size:=YL hq;go_enter Tryz.func102,Tryz.ntmps102
 go_wp2
 go_ret
 exact⟨rfl,by go_grown⟩
end Go.Proofs.YtdnacpbgodooaaaGreatDoor
namespace Go.Proofs.YtdnacpbgodooaaaGreatDoor
open Go.RowKit Go.Lib
theorem bk_rep (n i:Nat):bk (List.replicate n nilB) i=nilB:=by
 by_cases h:i<n
 ·simp[bk,h]
 ·simp[bk,h]
theorem en_rep (n i:Nat):en (List.replicate n nilE) i=nilE:=by
 by_cases h:i<n
 ·simp[en,h]
 ·simp[en,h]
theorem made_blk (n:Nat):(madeCells (Value.agg #[.int .i64 0,.int .i64 0]).cells (n*2)).toList=blkV (List.replicate n nilB):=by
 apply List.ext_getElem?
 intro j
 by_cases h:j<n*2
 ·obtain⟨a0,a1⟩:=QJ (List.replicate n nilB) (j / 2) (by simp; omega)
  rw[bk_rep] at a0 a1;have e:(madeCells (Value.agg #[.int .i64 0,.int .i64 0]).cells (n*2)).toList[j]?=some ((#[Value.int .i64 0,Value.int .i64 0])[j % 2]!):=by
   simp[madeCells,Value.cells,h]
  rw[e]
  rcases Nat.mod_two_eq_zero_or_one j with q | q
  ·rw[q]
   have e2:j=j / 2*2:=by omega
   rw[<- e2] at a0;rw[a0]; rfl
  ·rw[q]
   have e2:j=j / 2*2+1:=by omega
   rw[<- e2] at a1;rw[a1]; rfl
 ·rw[List.getElem?_eq_none (by simp[madeCells]; omega),List.getElem?_eq_none (by rw[Wz]; simp; omega)]
theorem made_ent (n:Nat):(madeCells (Value.agg #[.string ⟨#[]⟩,.int .i64 0,.int .i64 0,.int .i64 0]).cells (n*4)).toList=entV (List.replicate n nilE):=by
 apply List.ext_getElem?
 intro j
 by_cases h:j<n*4
 ·obtain⟨a0,a1,a2,a3⟩:=Wg (List.replicate n nilE) (j / 4) (by simp; omega)
  rw[en_rep] at a0 a1 a2 a3;have e:(madeCells (Value.agg #[.string ⟨#[]⟩,.int .i64 0,.int .i64 0,.int .i64 0]).cells (n*4)).toList[j]?=some ((#[Value.string ⟨#[]⟩,Value.int .i64 0,Value.int .i64 0,Value.int .i64 0])[j % 4]!):=by
   simp[madeCells,Value.cells,h]
  rw[e];have q:j % 4=0∨j % 4=1∨j % 4=2∨j % 4=3:=by omega
  rcases q with q | q | q | q
  ·rw[q]
   have e2:j=j / 4*4:=by omega
   rw[<- e2] at a0;rw[a0]; rfl
  ·rw[q]
   have e2:j=j / 4*4+1:=by omega
   rw[<- e2] at a1;rw[a1]; rfl
  ·rw[q]
   have e2:j=j / 4*4+2:=by omega
   rw[<- e2] at a2;rw[a2]; rfl
  ·rw[q]
   have e2:j=j / 4*4+3:=by omega
   rw[<- e2] at a3;rw[a3]; rfl
 ·rw[List.getElem?_eq_none (by simp[madeCells]; omega),List.getElem?_eq_none (by rw[Wu]; simp; omega)]
theorem Ju (n:Nat) (hn:16*n<=281474976710656):∃ M:Array Value,M.toList=blkV (List.replicate n nilB) ∧
  ∀ w,(Instr.makeSlice 80 (.int .i64 (n:Int)) (.int .i64 (n:Int))).run Tryz.prog w=.ok (.slice (some ⟨w.heap.size,0,none⟩) n n) (w.alloc (.cells M 100)):=by
 obtain⟨i0,hi,hz0,hz1,hz2⟩:=info_parts Vg;refine⟨_,made_blk n,fun w=>?_⟩
 have h:=run_make (P:=Tryz.prog) w 80 100 i0 _ Tryz.underlying80 hi hz0 .i64 .i64 (n:Int) (n:Int) (by omega) (by omega) (by rw[hz2]; omega) (by omega)
 rw[hz1] at h;simp only[Int.toNat_natCast] at h
 exact h
theorem Jt (n:Nat) (hn:40*n<=281474976710656):∃ M:Array Value,M.toList=entV (List.replicate n nilE) ∧
  ∀ w,(Instr.makeSlice 81 (.int .i64 (n:Int)) (.int .i64 (n:Int))).run Tryz.prog w=.ok (.slice (some ⟨w.heap.size,0,none⟩) n n) (w.alloc (.cells M 95)):=by
 obtain⟨i0,hi,hz0,hz1,hz2⟩:=info_parts Vf;refine⟨_,made_ent n,fun w=>?_⟩
 have h:=run_make (P:=Tryz.prog) w 81 95 i0 _ Tryz.underlying81 hi hz0 .i64 .i64 (n:Int) (n:Int) (by omega) (by omega) (by rw[hz2]; omega) (by omega)
 rw[hz1] at h;simp only[Int.toNat_natCast] at h
 exact h
theorem Z5s (w:World) (b n c ty:Nat) (a:Option Addr) (V:List Value) (L:List Bk) (ho:Own w b 100 V) (hV:V.length=n*2) (hr:YP w a n L):
  ∃ w',(Builtin.copy_ #[80,80] ty #[.slice (some ⟨b,0,none⟩) n n,.slice a n c]).run Tryz.prog w=.ok (goInt n) w'∧Own w' b 100 (blkV L)∧But b w w':=by
 obtain⟨R,hR⟩:=ho
 by_cases h0:n=0
 ·subst h0
  obtain rfl:L=[]:=List.eq_nil_of_length_eq_zero hr.sn.symm;obtain rfl:V=[]:=List.eq_nil_of_length_eq_zero hV;refine⟨w,?_,⟨R,hR⟩,⟨rfl,rfl,rfl,rfl,fun _ _=>rfl⟩⟩
  obtain⟨i0,hi,_,hz1,_⟩:=info_parts Vg;cases a with
  | none=>simp[Builtin.copy_,run_underlying Tryz.underlying80,Builtin.lenOf,Builtin.firstCells,sizeOf,typeInfo,hi,storeCells]
  | some a=>simp[Builtin.copy_,run_underlying Tryz.underlying80,Builtin.lenOf,Builtin.firstCells,sizeOf,typeInfo,hi,storeCells,loadCells,loadCellsFrom]
 ·obtain⟨p,o,rfl,hp,_⟩:=hr.c 0 (by omega)
  have hl:(blkV L).length=n*2:=by rw[Wz,hr.sn]
  have:=Q8 (P:=Tryz.prog) w 80 80 ty 100 2 b n n ⟨p,o,none⟩ c (V++R).toArray 100 (blkV L) Tryz.underlying80 (by kernel_rfl) hR hl hr.row (by simp; omega) (YE L)
  refine⟨_,this,⟨R,?_⟩,⟨rfl,rfl,rfl,by simp[World.setRow],fun k hk=>setRow_other _ _ _ _ hk⟩⟩
  rw[setRow_heap w b _ _ 100 (0,0) hR];simp[hl,<- hV]
structure Yq (w0:World) (B:Nat) (d1 d2:Value) (p b b' n m:Nat) (V V':List Value) (w:World):Prop where
 box:Own w B 83 [d1,d2]
 res:Own w (B+1) 83 [.slice none 0 0,.slice none 0 0]
 cbox:Own w p 83 [.slice (some ⟨b,0,none⟩) n n,.slice (some ⟨b',0,none⟩) m m]
 s:Own w b 100 V
 l:Own w b' 95 V'
 ge:B+2<=p∧B+2<=b∧B+2<=b'
 ne:p≠b∧p≠b'∧b≠b'
 below:Below B w0 w
section
variable {w0 w w':World} {B p b b' n m:Nat} {d1 d2:Value} {V V':List Value}
theorem Yq.drew (h:Yq w0 B d1 d2 p b b' n m V V' w):Yq w0 B d1 d2 p b b' n m V V' w.drew:=⟨h.box.drew,h.res.drew,h.cbox.drew,h.s.drew,h.l.drew,h.ge,h.ne,h.below.drew⟩
theorem Yq.to (h:Yq w0 B d1 d2 p b b' n m V V' w) (g:Below w.heap.size w w'):Yq w0 B d1 d2 p b b' n m V V' w':=
 ⟨h.box.below' g,h.res.below' g,h.cbox.below' g,h.s.below' g,h.l.below' g,h.ge,h.ne,h.below.trans (g.mono (Nat.le_of_lt h.box.lt))⟩
theorem Yq.set (h:Yq w0 B d1 d2 p b b' n m V V' w) {k:Nat} (hk:k<V'.length) (v:Value):Yq w0 B d1 d2 p b b' n m V (V'.set k v) (w.setCell ⟨b',k,none⟩ v):=by
 obtain⟨g1,g2,g3⟩:=h.ge;obtain⟨n1,n2,n3⟩:=h.ne;exact⟨h.box.other (by show B≠b'; omega) v,h.res.other (by show B+1≠b'; omega) v,h.cbox.other (by show p≠b'; omega) v,h.s.other (by show b≠b'; omega) v,h.l.set hk v,h.ge,h.ne,h.below.setCell (by show B<=b'; omega) v⟩
theorem Yq.but (h:Yq w0 B d1 d2 p b b' n m V V' w) {U:List Value} (ho:Own w' b 100 U) (hb:But b w w'):Yq w0 B d1 d2 p b b' n m U V' w':=by
 obtain⟨g1,g2,g3⟩:=h.ge;obtain⟨n1,n2,n3⟩:=h.ne;exact⟨h.box.of_block (hb.block _ (by omega)),h.res.of_block (hb.block _ (by omega)),h.cbox.of_block (hb.block _ (by omega)),ho,h.l.of_block (hb.block _ (by omega)),h.ge,h.ne,h.below.trans (hb.below (by omega))⟩
end
def Yg (E:List En) (k:Nat):List En:=E.take k++List.replicate (E.length-k) nilE
theorem UT (E:List En) (k:Nat) (h:k<=E.length):(Yg E k).length=E.length:=by simp[Yg]; omega
theorem Z52 (E:List En) (k:Nat) (h:k<E.length):(Yg E k).set k (en E k)=Yg E (k+1):=by
 unfold Yg;rw[List.set_append_right _ _ (by simp; omega),show E.length-k=(E.length-(k+1))+1 by omega,List.replicate_succ]
 have e:k-(List.take k E).length=0:=by simp; omega
 rw[e,List.set_cons_zero,en_take E k h,List.append_assoc]
 rfl
theorem Z53 (E:List En):Yg E E.length=E:=by simp[Yg]
theorem Z3k (E:List En):Yg E 0=List.replicate E.length nilE:=by simp[Yg]
theorem Z6R (M:List En) (k:Nat) (h:k<M.length) (x:En):((((entV M).set (k*4) (.string x.s)).set (k*4+1) (.int .i64 x.b)).set (k*4+2) (.int .i64 x.a)).set (k*4+3) (.int .i64 x.n)=entV (M.set k x):=by
 induction M generalizing k with
 | nil=>simp at h
 | cons y M ih=>
  cases k with
  | zero=>rfl
  | succ k=>
   rw[List.set_cons_succ,entV_cons,entV_cons,<- ih k (by simpa using h),show (k+1)*4=k*4+1+1+1+1 by omega]
   rfl
theorem Yq.step {w0 w:World} {B p b b' n m:Nat} {d1 d2:Value} {V:List Value} {E:List En} {k:Nat} (h:Yq w0 B d1 d2 p b b' n m V (entV (Yg E k)) w) (hk:k<E.length):
  Yq w0 B d1 d2 p b b' n m V (entV (Yg E (k+1))) ((((w.setCell ⟨b',k*4,none⟩ (.string (en E k).s)).setCell ⟨b',k*4+1,none⟩ (.int .i64 (en E k).b)).setCell ⟨b',k*4+2,none⟩ (.int .i64 (en E k).a)).setCell ⟨b',k*4+3,none⟩ (.int .i64 (en E k).n)):=by
 have hl:(entV (Yg E k)).length=E.length*4:=by rw[Wu,UT E k (by omega)]
 have h1:=h.set (k:=k*4) (by omega) (.string (en E k).s)
 have h2:=h1.set (k:=k*4+1) (by rw[List.length_set]; omega) (.int .i64 (en E k).b)
 have h3:=h2.set (k:=k*4+2) (by rw[List.length_set,List.length_set]; omega) (.int .i64 (en E k).a)
 have h4:=h3.set (k:=k*4+3) (by rw[List.length_set,List.length_set,List.length_set]; omega) (.int .i64 (en E k).n)
 rw[Z6R _ k (by rw[UT E k (by omega)]; exact hk),Z52 E k hk] at h4
 exact h4
theorem Z1k {W w0:World} {B n m p b b':Nat} {d1 d2:Value} {E:List En} {M1 M2:Array Value} (hM1:M1.toList=blkV (List.replicate n nilB)) (hM2:M2.toList=entV (List.replicate m nilE)) (hm:m=E.length) (hB:Below B w0 W) (_hs:W.heap.size=B+2) (h1:Own W B 83 [d1,d2]) (h2:Own W (B+1) 83 [.slice none 0 0,.slice none 0 0])
  {w':World} (hb:Below (B+2) W w') (hg:B+2<=p∧B+2<=b∧B+2<=b') (hne:p≠b∧p≠b'∧b≠b')
  (hp:w'.heap[p]?=some (.cells #[.slice (some ⟨b,0,none⟩) n n,.slice (some ⟨b',0,none⟩) m m] 83 (0,0)))
  (hbs:w'.heap[b]?=some (.cells M1 100 (0,0))) (hbl:w'.heap[b']?=some (.cells M2 95 (0,0))):
  Yq w0 B d1 d2 p b b' n m (blkV (List.replicate n nilB)) (entV (Yg E 0)) w':=by
 refine⟨h1.below hb (by omega),h2.below hb (by omega),⟨[],hp⟩,⟨[],?_⟩,⟨[],?_⟩,hg,hne,hB.trans (hb.mono (by omega))⟩
 ·rw[List.append_nil,<- hM1,Array.toArray_toList]; exact hbs
 ·rw[Z3k,<- hm,List.append_nil,<- hM2,Array.toArray_toList]; exact hbl
theorem Z5x (a:Option Addr) (n c:Nat) (a':Option Addr) (m c':Nat) (C:Ct) (w:World) (h:ZW w a n c a' m C) (hn:16*n<=281474976710656) (hm:40*m<=281474976710656) (hs:∀ i,i<m->(en C.2 i).s.size<=281474976710656):
  Calls Tryz.prog 94 #[.agg #[.slice a n c,.slice a' m c']] w fun e w'=>∃ b b',e=.returned (.agg #[.slice (some ⟨b,0,none⟩) n n,.slice (some ⟨b',0,none⟩) m m])∧w.heap.size<=b∧w.heap.size<=b'∧b≠b'∧Own w' b 100 (blkV C.1)∧Own w' b' 95 (entV C.2)∧Below w.heap.size w w':=by
 obtain⟨W,hW⟩:∃ W,W=(w.alloc (.cells #[.slice a n c,.slice a' m c'] 83)).alloc (.cells #[.slice none 0 0,.slice none 0 0] 83):=⟨_,rfl⟩;have hz:W.heap.size=w.heap.size+2:=by rw[hW]; simp
 have hB:Below w.heap.size w W:=by rw[hW]; go_grown
 have k1:Own W w.heap.size 83 [.slice a n c,.slice a' m c']:=by rw[hW]; exact (Own.made w 83 [.slice a n c,.slice a' m c']).alloc _
 have k2:Own W (w.heap.size+1) 83 [.slice none 0 0,.slice none 0 0]:=by
  have:=Own.made (w.alloc (.cells #[.slice a n c,.slice a' m c'] 83)) 83 [.slice none 0 0,.slice none 0 0]
  rw[show (w.alloc (.cells #[.slice a n c,.slice a' m c'] 83)).heap.size=w.heap.size+1 by simp] at this
  rw[hW]; exact this
 have c1:W.cell? ⟨w.heap.size,0,none⟩=some (.slice a n c):=k1.cell rfl
 have c2:W.cell? ⟨w.heap.size,1,none⟩=some (.slice a' m c'):=k1.cell rfl
 have HW:=hid (And.intro hz (And.intro hB (And.intro k1 (And.intro k2 hW))));obtain⟨M1,hM1,mk1⟩:=Ju n hn;obtain⟨M2,hM2,mk2⟩:=Jt m hm;have HM:=hid (And.intro hM1 hM2);have HD:=hid h;have HS:=hid hs;have HN:=hid (And.intro h.B.sn h.E.sn);clear hz hB k1 k2 h hs hM1 hM2;go_enter Tryz.func94,Tryz.ntmps94
 clear hW c1 c2;go_upto_region 1 with fail
 go_cut [3] (fun s3 wx=>∃ p b b',s3=.pointer (some ⟨p,0,none⟩)∧Yq w w.heap.size (.slice a n c) (.slice a' m c') p b b' n m (blkV (List.replicate n nilB)) (entV (Yg C.2 0)) wx)
 case first=>
  go_region
  all_goals (go_wp2_with fail; go_meet)
  all_goals (obtain⟨hz,hB,k1,k2,hW⟩:=HW.out; rw[<- hW]; apply Exists.intro; apply Exists.intro; apply Exists.intro; refine⟨rfl,?_⟩; apply Z1k HM.out.1 HM.out.2 HN.out.2 hB hz k1 k2 (three W w.heap.size hz _ _ _).2.2.2; (case hp=>(first | exact (three W w.heap.size hz _ _ _).1 | exact (three W w.heap.size hz _ _ _).2.1 | exact (three W w.heap.size hz _ _ _).2.2.1)); (case hbs=>(first | exact (three W w.heap.size hz _ _ _).1 | exact (three W w.heap.size hz _ _ _).2.1 | exact (three W w.heap.size hz _ _ _).2.2.1)); (case hbl=>(first | exact (three W w.heap.size hz _ _ _).1 | exact (three W w.heap.size hz _ _ _).2.1 | exact (three W w.heap.size hz _ _ _).2.2.1)); (case hg=>omega); (case hne=>omega))
 case rest=>
  obtain⟨p,b,b',rfl,hI⟩:=hcut;clear HW mk1 mk2 HM;obtain⟨w6,hcp,ho6,hb6⟩:=Z5s wc b n c 3 a _ C.1 hI.s (by rw[Wz,List.length_replicate]) (HD.out.below hI.below).B
  have hI6:=hI.but ho6 hb6;have c1:=hI.box.cell (i:=0) rfl;have c3:=hI.cbox.cell (i:=0) rfl;have d2:=hI6.box.cell (i:=1) rfl;have HI:=hid hI6;clear hI ho6 hb6 hI6;go_wp2_with fail
  clear c1 c3 d2 hcp;go_loopw [23] (fun i wr=>∃ k:Nat,k<=m∧i=.int .i64 k∧Yq w w.heap.size (.slice a n c) (.slice a' m c') p b b' n m (blkV C.1) (entV (Yg C.2 k)) wr) (fun i _=>m-(RowKit.intOf i).toNat)
  case atStart=>exact⟨0,Nat.zero_le _,rfl,HI.out⟩
  case round=>
   obtain⟨k,hk,rfl,hI⟩:=hrel;clear HI
   by_cases hlt:k<m
   ·have hlt':(k:Int)<m:=by omega
    obtain⟨q,o,rfl,hq,x0,x1,x2,x3⟩:=(HD.out.below hI.below).E.c k hlt;have hS:k<C.2.length:=by rw[<- HN.out.2]; exact hlt
    have HC:=hid (fun wx=>Vs (en C.2 k) wx (HS.out k hlt))
    have ST:=hid (fun wx (h:Yq w w.heap.size (.slice a n c) (.slice (some ⟨q,o,none⟩) m c') p b b' n m (blkV C.1) (entV (Yg C.2 k)) wx)=>h.step hS)
    obtain⟨W5,hW5⟩:∃ W5,W5=wr.alloc (.cells #[.string (en C.2 k).s,.int .i64 (en C.2 k).b,.int .i64 (en C.2 k).a,.int .i64 (en C.2 k).n] 95):=⟨_,rfl⟩;have e4:Box4 W5 wr.heap.size (.string (en C.2 k).s) (.int .i64 (en C.2 k).b) (.int .i64 (en C.2 k).a) (.int .i64 (en C.2 k).n):=by rw[hW5]; exact VM (Own.made wr 95 [.string (en C.2 k).s,.int .i64 (en C.2 k).b,.int .i64 (en C.2 k).a,.int .i64 (en C.2 k).n])
    have hI5:Yq w w.heap.size (.slice a n c) (.slice (some ⟨q,o,none⟩) m c') p b b' n m (blkV C.1) (entV (Yg C.2 k)) W5:=by rw[hW5]; exact hI.to ((Below.refl _ wr).alloc (Nat.le_refl _) _)
    obtain⟨z0,z1,z2,z3⟩:=Wg (Yg C.2 k) k (by rw[UT C.2 k (by omega)]; exact hS)
    have HZ:=hid (And.intro z0 (And.intro z1 (And.intro z2 z3)));have HI5:=hid hI5;generalize en C.2 k=x at x0 x1 x2 x3 HC ST hW5 e4;generalize en (Yg C.2 k) k=x' at HZ;have cb:=hI5.cbox.cell (i:=1) rfl;obtain⟨s0,s1,s2,s3,_,_,_,_,_⟩:=e4;clear hI hI5 z0 z1 z2 z3;go_upto_region 6 with fail
    rw[<- hW5];clear hW5 x0 x1 x2 x3;go_region_with (go_at_call 103; refine (HC.out _).mono ?_; rintro _ w7 ⟨rfl,g7⟩; (have HI7:=hid (HI5.out.drew.to g7)); (have cb7:=HI7.out.cbox.cell (i:=1) rfl); (have v0:=HI7.out.l.cell HZ.out.1); (have v1:=HI7.out.l.cell HZ.out.2.1); (have v2:=HI7.out.l.cell HZ.out.2.2.1); (have v3:=HI7.out.l.cell HZ.out.2.2.2); (have fz:=HI7.out.l.free))
    all_goals clear cb s0 s1 s2 s3 cb7 v0 v1 v2 v3 fz
    all_goals go_wp2
    all_goals go_roundw
    all_goals (first | (case rel=>exact⟨k+1,by omega,by go_num,ST.out _ HI7.out⟩) | skip)
    all_goals (simp[RowKit.intOf]; omega)
   ·obtain rfl:k=m:=by omega
    have hnl:¬ (k:Int)<k:=by omega
    have e0:=hI.cbox.cell (i:=0) rfl;have e1:=hI.cbox.cell (i:=1) rfl;have r0:=hI.res.cell (i:=0) rfl;have r1:=hI.res.cell (i:=1) rfl;have f0:=hI.res.free 0;have f1:=hI.res.free 1;have HI6:=hid hI;clear hI;obtain⟨y0,y1⟩:=Z6 (.slice (some ⟨b,0,none⟩) n n) (.slice (some ⟨b',0,none⟩) k k) r0 r1;go_wp2
    refine bodyPost_ret (v:=.agg #[.slice (some ⟨b,0,none⟩) n n,.slice (some ⟨b',0,none⟩) k k]) (by simp[results,Tryz.results94,go_sem,y0,y1]) rfl ?_
    obtain⟨g1,g2,g3⟩:=HI6.out.ge;obtain⟨n1,n2,n3⟩:=HI6.out.ne;refine⟨b,b',rfl,by omega,by omega,n3,(HI6.out.s.other (by show b≠w.heap.size+1; omega) _).other (by show b≠w.heap.size+1; omega) _,?_,(HI6.out.below.setCell (by show w.heap.size<=w.heap.size+1; omega) _).setCell (by show w.heap.size<=w.heap.size+1; omega) _⟩
    have:=(HI6.out.l.other (p:=⟨w.heap.size+1,0,none⟩) (by show b'≠w.heap.size+1; omega) (.slice (some ⟨b,0,none⟩) n n)).other (p:=⟨w.heap.size+1,1,none⟩) (by show b'≠w.heap.size+1; omega) (.slice (some ⟨b',0,none⟩) k k)
    rw[show Yg C.2 k=C.2 by rw[HN.out.2]; exact Z53 C.2] at this
    exact this
end Go.Proofs.YtdnacpbgodooaaaGreatDoor
namespace Go.Proofs.YtdnacpbgodooaaaGreatDoor
open Go.RowKit Go.Lib
def Rdr (w:World) (p:Nat) (r:Rd):Prop:=Own w p 170 [.string (str r.1),.bool r.2]
theorem Z61 (l:List UInt8) (n:Nat):(str l).extract 0 n=str (l.take n):=by rw[ext_str,str_list,cut,List.drop_zero]
theorem Z62 (l:List UInt8) (n:Nat):(str l).extract n l.length=str (l.drop n):=by rw[ext_str,str_list,cut,List.take_length]
theorem Z1E (p n:Nat) (r:Rd) (w:World) (h:Rdr w p r) (_hn:n<=65535):
  Calls Tryz.prog 202 #[.pointer (some ⟨p,0,none⟩),.int .i64 n] w fun e w'=>e=.returned (.string (str (tk n r).1))∧Rdr w' p (tk n r).2∧Chg (fun k=>k=p) w w':=by
 obtain⟨l,b⟩:=r;unfold Rdr at h;dsimp only at h;have c0:=h.cell (i:=0) rfl;have c1:=h.cell (i:=1) rfl;have f0:=h.free 0;have f1:=h.free 1;have hz:(str l).size=l.length:=str_size l
 by_cases hl:n<=l.length
 ·rw[Je n (l,b) hl]
  dsimp only;have hl':¬ (l.length:Int)<n:=by omega
  have h1:(n:Int)<=l.length:=by omega
  have E1:=hid (Z61 l n);have E2:=hid (Z62 l n);have HH:=hid (h.set (i:=0) (by simp) (.string (str (l.drop n))))
  clear h hl;generalize str l=S at c0 hz E1 E2;go_enter Tryz.func202,Tryz.ntmps202
  go_wp2
  go_ret
  exact⟨VC E1.out,by rw[E2.out]; exact HH.out,Zo w p 0 _⟩
 ·rw[Z2K n (l,b) (by simpa using hl)]
  dsimp only;have hl':(l.length:Int)<n:=by omega
  have HH:=hid ((h.set (i:=0) (by simp) (.string (str []))).set (i:=1) (by simp) (.bool true))
  clear h hl;generalize str l=S at c0 hz;go_enter Tryz.func202,Tryz.ntmps202
  go_wp2
  go_ret
  exact⟨rfl,HH.out,(Zo w p 0 _).set rfl 1 _⟩
theorem Z6m (l:List UInt8) (k:Nat) (h:k<l.length):XT (l.take (k+1))=XT (l.take k)*256+l[k].toNat:=by
 rw[List.take_succ_eq_append_getElem h,Z6n]
theorem XN (p n:Nat) (r:Rd) (w:World) (h:Rdr w p r) (hn:n<=2):
  Calls Tryz.prog 176 #[.pointer (some ⟨p,0,none⟩),.int .i64 n] w fun e w'=>e=.returned (.int .i64 (rnum n r).1)∧Rdr w' p (rnum n r).2∧Chg (fun k=>k=p) w w':=by
 have CT:=hid (Z1E p n r w h (by omega))
 have hl:=Jf n r;unfold rnum;dsimp only;obtain⟨R,hR⟩:∃ R,(tk n r).2=R:=⟨_,rfl⟩;rw[hR] at CT ⊢;clear hR h;generalize (tk n r).1=l at CT hl;have hz:(str l).size=l.length:=str_size l;have l2:l.length<=2:=by omega
 go_enter Tryz.func176,Tryz.ntmps176
 go_wp2_with fail
 refine CT.out.mono ?_
 rintro _ w1 ⟨rfl,r1,g1⟩;have H1:=hid (And.intro r1 g1);clear r1 g1 CT;go_wp2_with fail
 go_loop [6,13] (fun v i=>∃ k:Nat,k<=l.length∧i=.int .i64 k∧v=.int .i64 (XT (l.take k))) (fun _ i=>l.length-(RowKit.intOf i).toNat)
 case atStart=>exact⟨0,Nat.zero_le _,rfl,rfl⟩
 case round=>
  obtain⟨k,hk,rfl,rfl⟩:=hrel
  by_cases hlt:k<l.length
  ·have hlt':(k:Int)<l.length:=by omega
   have N:=hid (Z6m l k hlt);have B:=Z4D (l.take k) (by simp; omega)
   obtain⟨x,hx⟩:∃ x:Nat,XT (l.take k)=x:=⟨(XT (l.take k)).toNat,by omega⟩
   rw[hx] at N B ⊢;have b0:=B.2;have hy:=l[k].toNat_lt;have e0:(str l)[k]'(by rw[hz]; exact hlt)=l[k]:=rfl
   have V:=hid (show bits .or .i64 ((x:Int)*256) (wrap64 (((str l)[k]'(by rw[hz]; exact hlt)).toNat:Int))=XT (l.take (k+1)) by rw[N.out,wrap_byte,e0,Z1R x _ (by omega) (by omega)]; omega)
   clear N B hx hy e0;go_wp2
   go_round
   case rel=>exact⟨k+1,by omega,by go_num,by rw[V.out]⟩
   case measure=>simp[RowKit.intOf]; omega
  ·obtain rfl:k=l.length:=by omega
   have hlt':¬ (l.length:Int)<l.length:=by omega
   go_wp2
   go_ret
   exact⟨ret_int (by simp),H1.out.1,H1.out.2⟩
theorem own4 {w:World} {p:Nat} {t:TypeId} {d0 d1 d2 d3:Value} (h:Own w p t [d0,d1,d2,d3]):(w.cell? ⟨p,0,none⟩=some d0∧w.cell? ⟨p,1,none⟩=some d1∧w.cell? ⟨p,2,none⟩=some d2∧w.cell? ⟨p,3,none⟩=some d3)∧w.frozen? ⟨p,0,none⟩=false∧w.frozen? ⟨p,1,none⟩=false∧w.frozen? ⟨p,2,none⟩=false∧w.frozen? ⟨p,3,none⟩=false:=
 ⟨⟨h.cell rfl,h.cell rfl,h.cell rfl,h.cell rfl⟩,h.free 0,h.free 1,h.free 2,h.free 3⟩
structure EntI (w0:World) (p:Nat) (r:Rd) (d0 d1 d2 d3:Value) (w:World):Prop where
 rd:Rdr w p r
 box:Own w (w0.heap.size+1) 95 [d0,d1,d2,d3]
 res:Own w w0.heap.size 95 [.string ⟨#[]⟩,.int .i64 0,.int .i64 0,.int .i64 0]
 ch:Chg (fun k=>k=p) w0 w
section
variable {w0 w w':World} {p:Nat} {r r':Rd} {d0 d1 d2 d3:Value}
theorem EntI.read (h:EntI w0 p r d0 d1 d2 d3 w) (hp:p<w0.heap.size) (hr:Rdr w' p r') (hc:Chg (fun k=>k=p) w w'):EntI w0 p r' d0 d1 d2 d3 w':=
 ⟨hr,hc.own h.box (by omega),hc.own h.res (by omega),h.ch.step hc⟩
theorem EntI.to (h:EntI w0 p r d0 d1 d2 d3 w) (hp:p<w0.heap.size) (g:Below w.heap.size w w'):EntI w0 p r d0 d1 d2 d3 w':=h.read hp (Own.below' h.rd g) (chg_below _ g)
theorem EntI.set0 (h:EntI w0 p r d0 d1 d2 d3 w) (hp:p<w0.heap.size) (v:Value):EntI w0 p r v d1 d2 d3 (w.setCell ⟨w0.heap.size+1,0,none⟩ v):=
 ⟨h.rd.other (by show p≠w0.heap.size+1; omega) v,h.box.set (i:=0) (by simp) v,h.res.other (by show w0.heap.size≠w0.heap.size+1; omega) v,h.ch.fresh (by omega) 0 v⟩
theorem EntI.set1 (h:EntI w0 p r d0 d1 d2 d3 w) (hp:p<w0.heap.size) (v:Value):EntI w0 p r d0 v d2 d3 (w.setCell ⟨w0.heap.size+1,1,none⟩ v):=
 ⟨h.rd.other (by show p≠w0.heap.size+1; omega) v,h.box.set (i:=1) (by simp) v,h.res.other (by show w0.heap.size≠w0.heap.size+1; omega) v,h.ch.fresh (by omega) 1 v⟩
theorem EntI.set2 (h:EntI w0 p r d0 d1 d2 d3 w) (hp:p<w0.heap.size) (v:Value):EntI w0 p r d0 d1 v d3 (w.setCell ⟨w0.heap.size+1,2,none⟩ v):=
 ⟨h.rd.other (by show p≠w0.heap.size+1; omega) v,h.box.set (i:=2) (by simp) v,h.res.other (by show w0.heap.size≠w0.heap.size+1; omega) v,h.ch.fresh (by omega) 2 v⟩
theorem EntI.set3 (h:EntI w0 p r d0 d1 d2 d3 w) (hp:p<w0.heap.size) (v:Value):EntI w0 p r d0 d1 d2 v (w.setCell ⟨w0.heap.size+1,3,none⟩ v):=
 ⟨h.rd.other (by show p≠w0.heap.size+1; omega) v,h.box.set (i:=3) (by simp) v,h.res.other (by show w0.heap.size≠w0.heap.size+1; omega) v,h.ch.fresh (by omega) 3 v⟩
end
theorem Z6Q (p:Nat) (r:Rd) (w:World) (h:Rdr w p r):
  Calls Tryz.prog 177 #[.pointer (some ⟨p,0,none⟩)] w fun e w'=>e=.returned (.agg #[.string (rent1 r).1.s,.int .i64 (rent1 r).1.b,.int .i64 (rent1 r).1.a,.int .i64 (rent1 r).1.n])∧Rdr w' p (rent1 r).2∧Chg (fun k=>k=p) w w':=by
 have hp:p<w.heap.size:=h.lt;obtain⟨W,hW⟩:∃ W,W=(w.alloc (.cells #[.string ⟨#[]⟩,.int .i64 0,.int .i64 0,.int .i64 0] 95)).alloc (.cells #[.string ⟨#[]⟩,.int .i64 0,.int .i64 0,.int .i64 0] 95):=⟨_,rfl⟩;have I0:EntI w p r (.string ⟨#[]⟩) (.int .i64 0) (.int .i64 0) (.int .i64 0) W:=by
  have k2:=Own.made (w.alloc (.cells #[.string ⟨#[]⟩,.int .i64 0,.int .i64 0,.int .i64 0] 95)) 95 [.string ⟨#[]⟩,.int .i64 0,.int .i64 0,.int .i64 0];rw[show (w.alloc (.cells #[.string ⟨#[]⟩,.int .i64 0,.int .i64 0,.int .i64 0] 95)).heap.size=w.heap.size+1 by simp] at k2
  rw[hW];exact⟨(Own.alloc h _).alloc _,k2,(Own.made w 95 [.string ⟨#[]⟩,.int .i64 0,.int .i64 0,.int .i64 0]).alloc _,((Chg.refl _ w).alloc _).alloc _⟩
 have C1:=XN p 1 r W I0.rd (by omega)
 rw[hW] at C1;have HC1:=hid C1;have HI:=hid (And.intro I0 hW);obtain⟨m,hm⟩:∃ m:Nat,(rnum 1 r).1=m:=⟨(rnum 1 r).1.toNat,by have:=XD r; omega⟩
 have hm2:m<=255:=by have:=XD r; omega
 rw[hm] at HC1;have E1:=hid (show e1 r=tk m (rnum 1 r).2 by rw[e1,hm,Int.toNat_natCast])
 have L1:(e1 r).1.length<=255:=by rw[E1.out]; exact Nat.le_trans (Jf _ _) hm2
 clear C1 I0 hW hm h;go_enter Tryz.func177,Tryz.ntmps177
 go_wp2_with fail
 refine HC1.out.mono ?_
 rintro _ w1 ⟨rfl,r1,g1⟩;rw[<- HI.out.2] at g1;have I1:=hid (HI.out.1.read hp r1 g1);have C2:=Z1E p m (rnum 1 r).2 w1 r1 (by omega)
 rw[<- E1.out] at C2;have HC2:=hid C2;clear r1 g1 C2 HC1 HI;go_wp2_with fail
 refine HC2.out.mono ?_
 rintro _ w2 ⟨rfl,r2,g2⟩;have I2:=hid (I1.out.read hp r2 g2);have C3:=hid (Wi (str (e1 r).1) w2 (by rw[str_size]; omega))
 clear r2 g2 HC2 I1;obtain⟨S,hS⟩:∃ S,str (e1 r).1=S:=⟨_,rfl⟩;rw[hS] at C3 ⊢;have HS:=hid hS;clear hS L1;go_wp2_with fail
 refine C3.out.mono ?_
 rintro _ w3 ⟨rfl,g3⟩;have I3:=hid (I2.out.to hp g3);have J3:=hid (I3.out.set0 hp (.string S));obtain⟨⟨c0,_,_,_⟩,f0,_,_,_⟩:=own4 I3.out.box;have C4:=XN p 1 (e1 r).2 _ J3.out.rd (by omega)
 have HC4:Hid (Calls Tryz.prog 176 #[.pointer (some ⟨p,0,none⟩),.int .i64 1] (w3.setCell ⟨w.heap.size+1,0,none⟩ (.string S)) fun e w'=>e=.returned (.int .i64 (e2 r).1)∧Rdr w' p (e2 r).2∧Chg (fun k=>k=p) (w3.setCell ⟨w.heap.size+1,0,none⟩ (.string S)) w'):=C4
 clear g3 C3 I2 C4;go_wp2_with fail
 refine HC4.out.mono ?_
 rintro _ w4 ⟨rfl,r4,g4⟩;have I4:=hid (J3.out.read hp r4 g4);have J4:=hid (I4.out.set1 hp (.int .i64 (e2 r).1));clear c0 f0;obtain⟨⟨_,c1,_,_⟩,_,f1,_,_⟩:=own4 I4.out.box;have HC5:Hid (Calls Tryz.prog 176 #[.pointer (some ⟨p,0,none⟩),.int .i64 2] (w4.setCell ⟨w.heap.size+1,1,none⟩ (.int .i64 (e2 r).1)) fun e w'=>e=.returned (.int .i64 (e3 r).1)∧Rdr w' p (e3 r).2∧Chg (fun k=>k=p) (w4.setCell ⟨w.heap.size+1,1,none⟩ (.int .i64 (e2 r).1)) w'):=XN p 2 (e2 r).2 _ J4.out.rd (by omega)
 clear r4 g4 HC4 I3 J3;go_wp2_with fail
 refine HC5.out.mono ?_
 rintro _ w5 ⟨rfl,r5,g5⟩;have I5:=hid (J4.out.read hp r5 g5);have J5:=hid (I5.out.set2 hp (.int .i64 (e3 r).1));clear c1 f1;obtain⟨⟨_,_,c2,_⟩,_,_,f2,_⟩:=own4 I5.out.box;have HC6:Hid (Calls Tryz.prog 176 #[.pointer (some ⟨p,0,none⟩),.int .i64 1] (w5.setCell ⟨w.heap.size+1,2,none⟩ (.int .i64 (e3 r).1)) fun e w'=>e=.returned (.int .i64 (e4 r).1)∧Rdr w' p (e4 r).2∧Chg (fun k=>k=p) (w5.setCell ⟨w.heap.size+1,2,none⟩ (.int .i64 (e3 r).1)) w'):=XN p 1 (e3 r).2 _ J5.out.rd (by omega)
 clear r5 g5 HC5 I4 J4;go_wp2_with fail
 refine HC6.out.mono ?_
 rintro _ w6 ⟨rfl,r6,g6⟩;have I6:=hid (J5.out.read hp r6 g6);have J6:=hid (I6.out.set3 hp (.int .i64 (e4 r).1));clear c2 f2;obtain⟨⟨_,_,_,c3⟩,_,_,_,f3⟩:=own4 I6.out.box;obtain⟨⟨b0,b1,b2,b3⟩,_,_,_,_⟩:=own4 J6.out.box;obtain⟨⟨a0,a1,a2,a3⟩,k0,k1,k2,k3⟩:=own4 J6.out.res;have BB:=VM J6.out.res;clear r6 g6 HC6 I5 J5;obtain⟨y0,y1,y2,y3⟩:=BB.ret (.string S) (.int .i64 (e2 r).1) (.int .i64 (e3 r).1) (.int .i64 (e4 r).1);have HF:=hid (And.intro (((((J6.out.rd.other (p:=⟨w.heap.size,0,none⟩) (by show p≠w.heap.size; omega) (.string S)).other (p:=⟨w.heap.size,1,none⟩) (by show p≠w.heap.size; omega) (.int .i64 (e2 r).1)).other (p:=⟨w.heap.size,2,none⟩) (by show p≠w.heap.size; omega) (.int .i64 (e3 r).1)).other (p:=⟨w.heap.size,3,none⟩) (by show p≠w.heap.size; omega) (.int .i64 (e4 r).1))) ((((J6.out.ch.fresh (Nat.le_refl _) 0 (.string S)).fresh (Nat.le_refl _) 1 (.int .i64 (e2 r).1)).fresh (Nat.le_refl _) 2 (.int .i64 (e3 r).1)).fresh (Nat.le_refl _) 3 (.int .i64 (e4 r).1)))
 clear BB;go_wp2
 refine bodyPost_ret (v:=.agg #[.string S,.int .i64 (e2 r).1,.int .i64 (e3 r).1,.int .i64 (e4 r).1]) (by simp[results,Tryz.results177,go_sem,y0,y1,y2,y3]) rfl ?_
 exact⟨by rw[<- HS.out]; rfl,HF.out.1,HF.out.2⟩
end Go.Proofs.YtdnacpbgodooaaaGreatDoor
namespace Go.Proofs.YtdnacpbgodooaaaGreatDoor
open Go.RowKit Go.Lib
theorem Z7J (r:Rd) (k j:Nat) (h:j<k):(0<=(bk (rblk k r).1 j).f∧(bk (rblk k r).1 j).f<=8+2731*k)∧0<=(bk (rblk k r).1 j).n∧(bk (rblk k r).1 j).n<65536:=by
 induction k with
 | zero=>omega
 | succ k ih=>
  have hl:=Qg r k;have e:(rblk (k+1) r).1=(rblk k r).1++[⟨behB (rblk k r).1,(rnum 2 (rblk k r).2).1⟩]:=rfl;rw[e]
  by_cases hj:j<k
  ·have e2:bk ((rblk k r).1++[⟨behB (rblk k r).1,(rnum 2 (rblk k r).2).1⟩]) j=bk (rblk k r).1 j:=by simp[bk,List.getElem?_append_left (show j<(rblk k r).1.length by omega)]
   rw[e2]
   have:=ih hj
   omega
  ·obtain rfl:j=k:=by omega
   have e2:bk ((rblk j r).1++[⟨behB (rblk j r).1,(rnum 2 (rblk j r).2).1⟩]) j=⟨behB (rblk j r).1,(rnum 2 (rblk j r).2).1⟩:=by simp[bk,hl]
   rw[e2];have h1:=Z7o r j;have h2:=Z1H (rblk j r).2;dsimp only;omega
theorem Z4g (r:Rd) (k j:Nat) (h:j<k):(en (rent k r).1 j).s.size<=255:=by
 induction k with
 | zero=>omega
 | succ k ih=>
  have hl:=Qc r k;rw[Y9];dsimp only
  by_cases hj:j<k
  ·have e2:en ((rent k r).1++[(rent1 (rent k r).2).1]) j=en (rent k r).1 j:=by simp[en,List.getElem?_append_left (show j<(rent k r).1.length by omega)]
   rw[e2];exact ih hj
  ·obtain rfl:j=k:=by omega
   have e2:en ((rent j r).1++[(rent1 (rent j r).2).1]) j=(rent1 (rent j r).2).1:=by simp[en,hl]
   rw[e2];generalize (rent j r).2=q;have h1:=XD q;have h2:=Jf (rnum 1 q).1.toNat (rnum 1 q).2;have e3:(rent1 q).1.s=str (e1 q).1:=rfl;rw[e3,str_size,e1];omega
structure BlkI (w0:World) (p:Nat) (r:Rd) (v:Value) (L:List Bk) (w:World):Prop where
 own:W0 w w0.heap.size v L
 rd:Rdr w p r
 ch:Chg (fun k=>k=p) w0 w
structure EnsI (w0:World) (p:Nat) (r:Rd) (v:Value) (L:List En) (w:World):Prop where
 own:Xv w w0.heap.size v L
 rd:Rdr w p r
 ch:Chg (fun k=>k=p) w0 w
section
variable {w0 w w':World} {p:Nat} {r r':Rd} {v v':Value} {L L':List Bk} {E E':List En}
theorem BlkI.read (h:BlkI w0 p r v L w) (hp:p<w0.heap.size) (hr:Rdr w' p r') (hc:Chg (fun k=>k=p) w w'):BlkI w0 p r' v L w':=
 ⟨hc.row h.own (fun g hg=>by omega),hr,h.ch.step hc⟩
theorem BlkI.to (h:BlkI w0 p r v L w) (hp:p<w0.heap.size) (g:Below w.heap.size w w'):BlkI w0 p r v L w':=h.read hp (Own.below' h.rd g) (chg_below _ g)
theorem BlkI.grown (h:BlkI w0 p r v L w) (hp:p<w0.heap.size) (hg:w.grownBy w' v.ownBlock) (ho:W0 w' w0.heap.size v' L'):BlkI w0 p r v' L' w':=by
 have hc:=Yk hg;have hne:∀ k,some k=v.ownBlock->w0.heap.size<=k:=fun k hk=>(World.ownsRow.lt h.own k hk.symm).1
 exact⟨ho,hc.own h.rd (fun e=>by have:=hne p e; omega),h.ch.trans hc (fun k hk q=>by have:=hne k q; omega)⟩
theorem EnsI.read (h:EnsI w0 p r v E w) (hp:p<w0.heap.size) (hr:Rdr w' p r') (hc:Chg (fun k=>k=p) w w'):EnsI w0 p r' v E w':=
 ⟨hc.row h.own (fun g hg=>by omega),hr,h.ch.step hc⟩
theorem EnsI.to (h:EnsI w0 p r v E w) (hp:p<w0.heap.size) (g:Below w.heap.size w w'):EnsI w0 p r v E w':=h.read hp (Own.below' h.rd g) (chg_below _ g)
theorem EnsI.grown (h:EnsI w0 p r v E w) (hp:p<w0.heap.size) (hg:w.grownBy w' v.ownBlock) (ho:Xv w' w0.heap.size v' E'):EnsI w0 p r v' E' w':=by
 have hc:=Yk hg;have hne:∀ k,some k=v.ownBlock->w0.heap.size<=k:=fun k hk=>(World.ownsRow.lt h.own k hk.symm).1
 exact⟨ho,hc.own h.rd (fun e=>by have:=hne p e; omega),h.ch.trans hc (fun k hk q=>by have:=hne k q; omega)⟩
end
theorem Z5A (p:Nat) (r:Rd) (w:World) (h:Rdr w p r):
  Calls Tryz.prog 139 #[.pointer (some ⟨p,0,none⟩)] w fun e w'=>∃ ao m cap,e=.returned (.slice ao m cap)∧BlkI w p (c1 r).2 (.slice ao m cap) (c1 r).1 w':=by
 have hp:p<w.heap.size:=h.lt;have C1:=XN p 1 r w h (by omega)
 obtain⟨N,hN⟩:∃ N:Nat,(rnum 1 r).1=N:=⟨(rnum 1 r).1.toNat,by have:=XD r; omega⟩
 have hN2:N<=255:=by have:=XD r; omega
 rw[hN] at C1;have EC:=hid (show c1 r=rblk N (rnum 1 r).2 by rw[c1,hN,Int.toNat_natCast])
 obtain⟨q,hq⟩:∃ q,(rnum 1 r).2=q:=⟨_,rfl⟩;rw[hq] at C1 EC;have HC1:=hid C1;clear C1 hN h hq;go_enter Tryz.func139,Tryz.ntmps139
 go_wp2_with fail
 refine HC1.out.mono ?_
 rintro _ w1 ⟨rfl,r1,g1⟩;have I1:Hid (BlkI w p q (.slice none 0 0) [] w1):=⟨ownsK_nil _ _,r1,g1⟩;clear r1 g1 HC1;go_wp2_with fail
 go_loopw [3,6] (fun v i wr=>∃ k m cap:Nat,∃ ao:Option Addr,k<=N∧i=.int .i64 k∧v=.slice ao m cap∧Hid (BlkI w p (rblk k q).2 (.slice ao m cap) (rblk k q).1 wr)) (fun _ i _=>N-(RowKit.intOf i).toNat)
 case atStart=>exact⟨0,0,0,none,Nat.zero_le _,rfl,rfl,I1⟩
 case round=>
  obtain⟨k,m,cap,ao,hk,rfl,rfl,HI⟩:=hrel;clear I1
  by_cases hlt:k<N
  ·have hlt':(k:Int)<N:=by omega
   have hl:=Qg q k;obtain⟨hm,_,HB⟩:=Ub HI.out.own (by rw[hl]; unfold maxLen; omega)
   rw[hl] at hm;have CB:=hid (WA ao m cap (rblk k q).1 wr HB (fun j hj=>by have:=Z7J q k j (by omega); omega))
   have HN:=hid (JF k q);have hb:=Z7o q k;obtain⟨⟨L,R⟩,hX⟩:∃ X,rblk k q=X:=⟨_,rfl⟩;rw[hX] at HI CB HN hb hl;dsimp only at HI CB HN hb hl;clear HB hm hX;unfold stB at HN;generalize behB L=f at CB HN hb;go_wp2_with fail
   refine CB.out.mono ?_
   rintro _ w2 ⟨rfl,g2⟩;have I2:=hid (HI.out.to hp g2);have C3:=hid (XN p 2 R w2 I2.out.rd (by omega))
   clear CB g2 HI;generalize rnum 2 R=X at C3 HN;obtain⟨n,R'⟩:=X;dsimp only at C3 HN;go_wp2_with fail
   refine C3.out.mono ?_
   rintro _ w3 ⟨rfl,r3,g3⟩;have I3:=I2.out.read hp r3 g3;have I4:=hid (I3.to hp ((Below.refl _ w3).alloc (Nat.le_refl _) (.cells #[.int .i64 f,.int .i64 n] 100)));have N4:=Qm w3 f n 100;clear C3 r3 g3 I2 I3;go_wp2_with (at_builtin; (refine XZ _ rfl (.tmp 8) (.tmp 14) rfl w.heap.size _ L rfl I4.out.own ⟨w3.heap.size,0,none⟩ 1 ⟨f,n⟩ rfl N4 (by omega) I4.out.ch.size ?_; intro g5 m5 cap5 w5 hm5 hg5 hown5 hgrow5; have I5:=hid (I4.out.grown hp hgrow5 hown5); clear hown5 hgrow5))
   go_roundw
   case rel=>
    refine⟨k+1,m5,cap5,some ⟨g5,0,none⟩,by omega,by go_num,rfl,?_⟩
    rw[HN.out];exact I5
   case measure=>simp[RowKit.intOf]; omega
  ·obtain rfl:k=N:=by omega
   have hlt':¬ (k:Int)<k:=by omega
   go_wp2
   go_ret
   refine⟨ao,m,cap,rfl,?_⟩
   rw[EC.out];exact HI.out
theorem Z3q (p:Nat) (r:Rd) (w:World) (h:Rdr w p r):
  Calls Tryz.prog 140 #[.pointer (some ⟨p,0,none⟩)] w fun e w'=>∃ ao m cap,e=.returned (.slice ao m cap)∧EnsI w p (rent (rnum 1 r).1.toNat (rnum 1 r).2).2 (.slice ao m cap) (rent (rnum 1 r).1.toNat (rnum 1 r).2).1 w':=by
 have hp:p<w.heap.size:=h.lt;have C1:=XN p 1 r w h (by omega)
 obtain⟨N,hN⟩:∃ N:Nat,(rnum 1 r).1=N:=⟨(rnum 1 r).1.toNat,by have:=XD r; omega⟩
 have hN2:N<=255:=by have:=XD r; omega
 rw[hN] at C1 ⊢;rw[Int.toNat_natCast];obtain⟨q,hq⟩:∃ q,(rnum 1 r).2=q:=⟨_,rfl⟩;rw[hq] at C1 ⊢;have HC1:=hid C1;clear C1 hN h hq;go_enter Tryz.func140,Tryz.ntmps140
 go_wp2_with fail
 refine HC1.out.mono ?_
 rintro _ w1 ⟨rfl,r1,g1⟩;have I1:Hid (EnsI w p q (.slice none 0 0) [] w1):=⟨ownsE_nil _ _,r1,g1⟩;clear r1 g1 HC1;go_wp2_with fail
 go_loopw [3,6] (fun v i wr=>∃ k m cap:Nat,∃ ao:Option Addr,k<=N∧i=.int .i64 k∧v=.slice ao m cap∧Hid (EnsI w p (rent k q).2 (.slice ao m cap) (rent k q).1 wr)) (fun _ i _=>N-(RowKit.intOf i).toNat)
 case atStart=>exact⟨0,0,0,none,Nat.zero_le _,rfl,rfl,I1⟩
 case round=>
  obtain⟨k,m,cap,ao,hk,rfl,rfl,HI⟩:=hrel;clear I1
  by_cases hlt:k<N
  ·have hlt':(k:Int)<N:=by omega
   have hl:=Qc q k;have HN:=hid (Y9 k q);obtain⟨⟨L,R⟩,hX⟩:∃ X,rent k q=X:=⟨_,rfl⟩;rw[hX] at HI HN hl;dsimp only at HI HN hl;clear hX;have C3:=hid (Z6Q p R wr HI.out.rd);generalize rent1 R=X at C3 HN;obtain⟨x,R'⟩:=X;dsimp only at C3 HN;go_wp2_with fail
   refine C3.out.mono ?_
   rintro _ w3 ⟨rfl,r3,g3⟩;have I3:=HI.out.read hp r3 g3;have I4:=hid (I3.to hp ((Below.refl _ w3).alloc (Nat.le_refl _) (.cells #[.string x.s,.int .i64 x.b,.int .i64 x.a,.int .i64 x.n] 95)));have N4:=Wc w3 x 95;clear C3 r3 g3 I3 HI;go_wp2_with (at_builtin; (refine Zx _ rfl (.tmp 8) (.tmp 11) rfl w.heap.size _ L rfl I4.out.own ⟨w3.heap.size,0,none⟩ 1 x rfl N4 (by omega) I4.out.ch.size ?_; intro g5 m5 cap5 w5 hm5 hg5 hown5 hgrow5; have I5:=hid (I4.out.grown hp hgrow5 hown5); clear hown5 hgrow5))
   go_roundw
   case rel=>
    refine⟨k+1,m5,cap5,some ⟨g5,0,none⟩,by omega,by go_num,rfl,?_⟩
    rw[HN.out];exact I5
   case measure=>simp[RowKit.intOf]; omega
  ·obtain rfl:k=N:=by omega
   have hlt':¬ (k:Int)<k:=by omega
   go_wp2
   go_ret
   exact⟨ao,m,cap,rfl,HI.out⟩
end Go.Proofs.YtdnacpbgodooaaaGreatDoor
