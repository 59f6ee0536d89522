import Derived.Test.YtdnacpbgodooaaaGreatDoorRefB
import Derived.Deep.RegionHeld3
import Derived.Test.YtdnacpbgodooaaaGreatDoorArrM
set_option maxHeartbeats 4000000
set_option maxRecDepth 4000
namespace Go.Proofs.YtdnacpbgodooaaaGreatDoor
open Go.RowKit Go.Lib
def XB (h:Nat->Hd) (k:Nat):List Value:=(List.range k).flatMap fun i=>[.slice (h i).x (h i).p (h i).c,.slice (h i).y (h i).q (h i).d]
theorem hdCells_succ (h:Nat->Hd) (k:Nat):XB h (k+1)=XB h k++[.slice (h k).x (h k).p (h k).c,.slice (h k).y (h k).q (h k).d]:=by
 unfold XB;rw[List.range_succ,List.flatMap_append]
 simp
theorem Xq (h:Nat->Hd):∀ k,(XB h k).length=k*2
 | 0=>rfl
 | k+1=>by rw[hdCells_succ,List.length_append,Xq h k]; simp; omega
theorem VH (h:Nat->Hd):∀ (k i:Nat),i<k->(XB h k)[i*2]?=some (.slice (h i).x (h i).p (h i).c)∧(XB h k)[i*2+1]?=some (.slice (h i).y (h i).q (h i).d)
 | 0,i,hi=>absurd hi (Nat.not_lt_zero _)
 | k+1,i,hi=>by
  rw[hdCells_succ]
  by_cases e:i<k
  ·obtain⟨h1,h2⟩:=VH h k i e
   rw[List.getElem?_append_left (by rw[Xq]; omega),List.getElem?_append_left (by rw[Xq]; omega)]
   exact⟨h1,h2⟩
  ·obtain rfl:i=k:=by omega
   rw[List.getElem?_append_right (by rw[Xq]; omega),List.getElem?_append_right (by rw[Xq]; omega),Xq]
   have e1:i*2-i*2=0:=by omega
   have e2:i*2+1-i*2=1:=by omega
   rw[e1,e2];exact⟨rfl,rfl⟩
theorem Qw (h h':Nat->Hd) (k:Nat) (e:∀ i,i<k->h i=h' i):XB h k=XB h' k:=by
 induction k with
 | zero=>rfl
 | succ k ih=>
  rw[hdCells_succ,hdCells_succ,ih (fun i hi=>e i (by omega)),e k (by omega)]
theorem Zj.grown {B:Nat} {w w':World} {x y:Option Addr} {D:Dv} (h:Zj B w x y D) {base k:Nat} {v:Value} {xs:List Value} (hv:w.ownsRow base 56 2 v k xs) (g:w.grownBy w' v.ownBlock):Zj B w' x y D:=by
 have keep:∀ {b t:Nat} {V:List Value},Own w b t V->t≠56->Own w' b t V:=by
  intro b t V ho ht;refine ho.of_block (g.block b ho.lt (fun e=>?_))
  rcases hv.2 with ⟨rfl,_⟩ | ⟨g',cap,cur,rfl,_,hg,_⟩
  ·simp[Value.ownBlock] at e
  ·have:b=g':=by simpa[Value.ownBlock] using e
   subst this;obtain⟨R,hR⟩:=ho;rw[hg] at hR;cases hR
   exact ht rfl
 refine⟨?_,?_,h.apart⟩
 ·rcases h.S with e | ⟨b,h1,h2,h3⟩
  ·exact .inl e
  ·exact .inr ⟨b,h1,h2,keep h3 (by decide)⟩
 ·rcases h.L with e | ⟨b,h1,h2,h3⟩
  ·exact .inl e
  ·exact .inr ⟨b,h1,h2,keep h3 (by decide)⟩
theorem Jk {ops:Array Oper} {o:Oper} {a:Act} {w:World} {K:Act->World->Prop} {Q:Exit->Act->World->Prop} {E:Prop}
  (hg:o.guard=none) (sl x:Operand) (hop:o.op=Op.call { callee:=Callee.builtin Builtin.append,args:=#[sl,x],argTypes:=#[24,24] })
  (base:Nat) (v:Value) (n:Nat) (xs:List Value) (hs:a.eval sl=v) (hown:w.ownsRow base 56 2 v n xs) (ad:Addr) (u0 u1:Value) (hx:a.eval x=.slice (some ad) 1 1) (hu:∀ j u,[u0,u1][j]?=some u->w.cell? (ad.add j)=some u) (h1:∀ u∈[u0,u1],u.oneCell'=true)
  (hbd:(n+1)*48<=140737488355328) (hbase:base<=w.heap.size)
  (hK:∀ g m cap w',Hid (m=n+1)->base<=g->w'.ownsRow base 56 2 (.slice (some ⟨g,0,none⟩) m cap) (n+1) (xs++[u0,u1])->w.grownBy w' v.ownBlock->K (a.put o.dst (.slice (some ⟨g,0,none⟩) m cap)) w'):
  if Region.wanted o (yielded ops a.tmps)=true then Oper.wp Tryz.prog o a w K Q else E:=by
 obtain⟨i0,hi,hz0,hz1,hz2⟩:=info_parts Z26;have hw:Region.wanted o (yielded ops a.tmps)=true:=by simp[Region.wanted,hg]
 rw[if_pos hw];obtain⟨v',w',hrun,r1,r2,_⟩:=run_append_own (P:=Tryz.prog) w base 24 o.type 56 i0 (.agg #[.slice none 0 0,.slice none 0 0]) 2 48 Tryz.underlying24 hi hz0 hz1 hz2 rfl (by decide) v n xs hown ad 1 1 [u0,u1] rfl hu h1 (by unfold maxLen; omega) hbd hbase
 unfold Oper.wp;simp[execOp,hop,resolve,invoke,builtin,hs,hx,hrun,Result.andThen]
 obtain⟨g,cap,rfl,hg⟩:=Zb r1 (by omega)
 exact hK g _ cap w' rfl hg r1 r2
structure CpI (w:World) (a:Option Addr) (n c:Nat) (A:Ar) (h:Nat->Hd) (k:Nat) (v:Value) (W:World):Prop where
 ab:W.cell? ⟨w.heap.size,0,none⟩=some (.slice a n c)
 rc:W.cell? ⟨w.heap.size+1,0,none⟩=some (.slice none 0 0)
 rf:W.frozen? ⟨w.heap.size+1,0,none⟩=false
 oc:W.cell? ⟨w.heap.size+1+1,0,none⟩=some v
 of:W.frozen? ⟨w.heap.size+1+1,0,none⟩=false
 lt:w.heap.size+3<=W.heap.size
 own:W.ownsRow (w.heap.size+3) 56 2 v k (XB h k)
 dn:∀ i,i<k->Zj (w.heap.size+3) W (h i).x (h i).y (dev A i)∧(h i).p=(dev A i).1.length∧(h i).q=(dev A i).2.length∧(h i).p<=maxLen∧(h i).q<=maxLen
 below:Below w.heap.size w W
section
variable {w W W':World} {a:Option Addr} {n c:Nat} {A:Ar} {h:Nat->Hd} {k:Nat} {v:Value}
theorem CpI.to (H:CpI w a n c A h k v W) (g:Below W.heap.size W W'):CpI w a n c A h k v W':=by
 have l:=H.lt;refine⟨(g.cell (p:=⟨w.heap.size,0,none⟩) (by show w.heap.size<_; omega)).trans H.ab,(g.cell (p:=⟨w.heap.size+1,0,none⟩) (by show w.heap.size+1<_; omega)).trans H.rc,(g.frozen (p:=⟨w.heap.size+1,0,none⟩) (by show w.heap.size+1<_; omega)).trans H.rf,
  (g.cell (p:=⟨w.heap.size+1+1,0,none⟩) (by show w.heap.size+1+1<_; omega)).trans H.oc,(g.frozen (p:=⟨w.heap.size+1+1,0,none⟩) (by show w.heap.size+1+1<_; omega)).trans H.of,Nat.le_trans l g.size,?_,fun i hi=>⟨(H.dn i hi).1.below' g,(H.dn i hi).2⟩,H.below.trans (g.mono H.below.size)⟩
 refine H.own.kept ⟨g.os,g.tape,g.output,g.size,fun k hk _=>g.block k hk⟩ (row:=none) ?_
 cases v.ownBlock
 ·exact .inl rfl
 ·exact .inr (by simp)
theorem CpI.put (H:CpI w a n c A h k v W) {g0 m cap:Nat} {d:Hd} (g:W.grownBy W' v.ownBlock) (hm:m=k+1) (ho:W'.ownsRow (w.heap.size+3) 56 2 (.slice (some ⟨g0,0,none⟩) m cap) (k+1) (XB h k++[.slice d.x d.p d.c,.slice d.y d.q d.d]))
  (hd:Zj (w.heap.size+3) W d.x d.y (dev A k)∧d.p=(dev A k).1.length∧d.q=(dev A k).2.length∧d.p<=maxLen∧d.q<=maxLen):
  (W'.cell? ⟨w.heap.size+1+1,0,none⟩=some v∧W'.frozen? ⟨w.heap.size+1+1,0,none⟩=false)∧CpI w a n c A (setH h k d) (k+1) (.slice (some ⟨g0,0,none⟩) m cap) (W'.setCell ⟨w.heap.size+1+1,0,none⟩ (.slice (some ⟨g0,0,none⟩) m cap)):=by
 have l:=H.lt;have blk:∀ b,b<w.heap.size+3->W'.heap[b]?=W.heap[b]?:=fun b hb=>g.block b (by omega) (fun e=>by have:=(H.own.lt b e.symm).1; omega)
 have cc:∀ b,b<w.heap.size+3->W'.cell? ⟨b,0,none⟩=W.cell? ⟨b,0,none⟩∧W'.frozen? ⟨b,0,none⟩=W.frozen? ⟨b,0,none⟩:=fun b hb=>⟨World.cell?_of_block (a:=⟨b,0,none⟩) (blk b hb),World.frozen?_of_block (a:=⟨b,0,none⟩) (blk b hb)⟩
 have oc':=(cc (w.heap.size+1+1) (by omega)).1.trans H.oc
 have of':=(cc (w.heap.size+1+1) (by omega)).2.trans H.of
 refine⟨⟨oc',of'⟩,?_,?_,?_,World.cell?_setCell_same _ _ _ oc',?_,?_,?_,fun i hi=>?_,?_⟩
 ·rw[World.cell?_setCell_other _ _ _ _ (fun e=>by have:=congrArg Addr.block e; simp at this; omega)]
  exact (cc w.heap.size (by omega)).1.trans H.ab
 ·rw[World.cell?_setCell_other _ _ _ _ (fun e=>by have:=congrArg Addr.block e; simp at this)]
  exact (cc (w.heap.size+1) (by omega)).1.trans H.rc
 ·rw[World.frozen?_setCell]
  exact (cc (w.heap.size+1) (by omega)).2.trans H.rf
 ·rw[World.frozen?_setCell]; exact of'
 ·have:=g.size; simp[World.setCell]; omega
 ·rw[hdCells_succ,Qw (setH h k d) h k (fun i hi=>by simp[setH]; omega)]
  have e:setH h k d k=d:=by simp[setH]
  rw[e];exact ownsRow_setCell_below ho (by show w.heap.size+1+1<w.heap.size+3; omega) _
 ·have tr:∀ {x y:Option Addr} {D:Dv},Zj (w.heap.size+3) W x y D->Zj (w.heap.size+3) (W'.setCell ⟨w.heap.size+1+1,0,none⟩ (.slice (some ⟨g0,0,none⟩) m cap)) x y D:=fun hx=>(hx.grown H.own g).other (by show w.heap.size+1+1<w.heap.size+3; omega) _
  by_cases e:i=k
  ·subst e
   have e2:setH h i d i=d:=by simp[setH]
   rw[e2];exact⟨tr hd.1,hd.2⟩
  ·have e2:setH h k d i=h i:=by simp[setH,e]
   rw[e2];exact⟨tr (H.dn i (by omega)).1,(H.dn i (by omega)).2⟩
 ·exact (H.below.grown g H.below.size (fun b hb=>by have:=(H.own.lt b hb).1; omega)).setCell (by show w.heap.size<=w.heap.size+1+1; omega) _
end
theorem cp_new {w W W':World} {a:Option Addr} {n c:Nat} {A:Ar} {h:Nat->Hd} {k:Nat} {v:Value} {x y:Option Addr} {p q:Nat} (I:CpI w a n c A h k v W') (hN:Zj W.drew.heap.size W' x y (dev A k)) (_g:Below W.heap.size W W') (hl:w.heap.size+3<=W.heap.size) (hq:p=(dev A k).1.length∧q=(dev A k).2.length∧p<=maxLen∧q<=maxLen) (e f:Nat):
  CpI w a n c A h k v (W'.alloc (.cells #[.slice x p e,.slice y q f] 56))∧(∀ j u,[Value.slice x p e,Value.slice y q f][j]?=some u->(W'.alloc (.cells #[.slice x p e,.slice y q f] 56)).cell? ((⟨W'.heap.size,0,none⟩:Addr).add j)=some u) ∧
  (Zj (w.heap.size+3) (W'.alloc (.cells #[.slice x p e,.slice y q f] 56)) x y (dev A k)∧p=(dev A k).1.length∧q=(dev A k).2.length∧p<=maxLen∧q<=maxLen):=by
 have hb:Below W'.heap.size W' (W'.alloc (.cells #[.slice x p e,.slice y q f] 56)):=(Below.refl _ W').alloc (Nat.le_refl _) _;have ho:=Own.made W' 56 [.slice x p e,.slice y q f];refine⟨I.to hb,fun j u hj=>?_,⟨(hN.less (by exact hl)).below' hb,hq⟩⟩
 rw[Addr.add_lit,Nat.zero_add];exact ho.cell hj
def Up (B:Nat) (d:Hd):Prop:=(∀ b o,d.x=some ⟨b,o,none⟩->0<d.p->B<=b)∧∀ b o,d.y=some ⟨b,o,none⟩->0<d.q->B<=b
theorem up_new {B B':Nat} {w:World} {d:Hd} {D:Dv} (h:Zj B w d.x d.y D) (hp:d.p=D.1.length) (hq:d.q=D.2.length) (hB:B'<=B):Up B' d:=by
 refine⟨fun b o e h0=>?_,fun b o e h0=>?_⟩
 ·rcases h.S with e1 | ⟨b',e1,e2,_⟩
  ·rw[hp,e1] at h0; cases h0
  ·rw[e1] at e; cases e; omega
 ·rcases h.L with e1 | ⟨b',e1,e2,_⟩
  ·rw[hq,e1] at h0; cases h0
  ·rw[e1] at e; cases e; omega
def Z7c (w:World) (n:Nat) (A:Ar) (e:Ending) (w':World):Prop:=
 ∃ a' c',e=.returned (.agg #[.slice a' n c'])∧((n=0∧A=[])∨∃ b h,a'=some ⟨b,0,none⟩∧w.heap.size<=b∧Z4 w' b 0 n h A∧∀ i,i<n->Up w.heap.size (h i))∧Below w.heap.size w w'
theorem Z7c.out {w w':World} {n:Nat} {A:Ar} {e:Ending} (h:Z7c w n A e w'):OutC w n A e w':=by
 obtain⟨a',c',h1,h2,h3⟩:=h;refine⟨a',c',h1,?_,h3⟩
 rcases h2 with h2 | ⟨b,hd,k1,k2,k3,_⟩
 ·exact .inl h2
 ·exact .inr ⟨b,hd,k1,k2,k3⟩
theorem cp_end {w W:World} {a:Option Addr} {n c:Nat} {A:Ar} {h:Nat->Hd} {ao:Option Addr} {cap:Nat} (I:CpI w a n c A h n (.slice ao n cap) W) (nb:n<=maxLen) (sn:n=A.length):
  ((n=0∧A=[])∨∃ b h,ao=some ⟨b,0,none⟩∧w.heap.size<=b∧Z4 (W.setCell ⟨w.heap.size+1,0,none⟩ (.slice ao n cap)) b 0 n h A∧∀ i,i<n->Up w.heap.size (h i))∧Below w.heap.size w (W.setCell ⟨w.heap.size+1,0,none⟩ (.slice ao n cap)):=by
 refine⟨?_,I.below.setCell (by show w.heap.size<=w.heap.size+1; omega) _⟩
 by_cases h0:n=0
 ·exact .inl ⟨h0,List.eq_nil_of_length_eq_zero (by omega)⟩
 ·right
  obtain⟨g,cap',e,hg⟩:=Zb I.own (by omega)
  cases e
  refine⟨g,h,rfl,by omega,?_,fun i hi=>up_new (I.dn i hi).1 (I.dn i hi).2.1 (I.dn i hi).2.2.1 (by omega)⟩
  have hc:∀ j u,(XB h n)[j]?=some u->W.cell? ⟨g,j,none⟩=some u:=fun j u hj=>by
   have:=World.ownsRow.cells I.own (g:=g) rfl j u hj
   rwa [Addr.add_lit,Nat.zero_add] at this
  have hlt:g<W.heap.size:=(I.own.lt g rfl).2;have hne:w.heap.size+1≠g:=by omega
  refine⟨⟨sn,nb,by simpa[World.setCell] using hlt,fun i hi=>?_,fun i hi=>?_,fun i hi=>?_⟩,fun j=>?_⟩
  ·rw[World.cell?_setCell_other _ _ _ _ (fun e=>hne (congrArg Addr.block e)),Nat.zero_add]
   exact hc _ _ (VH h n i hi).1
  ·rw[World.cell?_setCell_other _ _ _ _ (fun e=>hne (congrArg Addr.block e)),Nat.zero_add]
   exact hc _ _ (VH h n i hi).2
  ·obtain⟨d1,d2,d3,d4,d5⟩:=I.dn i hi
   exact (d1.at d2 d3 d4 d5).slices I.rc _
  ·rw[World.frozen?_setCell]
   exact World.ownsRow.frozenAt I.own j
theorem Z5r (w:World) (a:Option Addr) (n c:Nat) (A:Ar) (h:Nat->Hd):CpI w a n c A h 0 (.slice none 0 0) (((w.alloc (.cells #[.slice a n c] 26)).alloc (.cells #[.slice none 0 0] 26)).alloc (.cells #[.slice none 0 0] 26)):=
 ⟨by simp[go_sem],by simp[go_sem],by simp[go_sem],by simp[go_sem],by simp[go_sem],by simp,World.ownsRow_nil _ _ _ _,fun i hi=>absurd hi (Nat.not_lt_zero _),by go_grown⟩
theorem Z2C (a:Option Addr) (n c:Nat) (A:Ar) (w:World) (H:Z5 w a n A) (hf:QS n A):
  Calls Tryz.prog 13 #[.agg #[.slice a n c]] w (Z7c w n A):=by
 have HS:=hid (Z5r w a n c A (fun _=>⟨none,0,0,none,0,0⟩))
 have hnb:=H.nb;unfold maxLen at hnb;have HH:=hid H;have HF:=hid hf;clear H hf;go_enter Tryz.func13,Tryz.ntmps13
 go_wp2_with fail
 go_loopw [4] (fun i wr=>∃ (k:Nat) (ao:Option Addr) (m cap:Nat) (h:Nat->Hd),k<=n∧i=.int .i64 k∧Hid (m=k)∧CpI w a n c A h k (.slice ao m cap) wr) (fun i _=>n-(intOf i).toNat)
 case atStart=>exact⟨0,none,0,0,_,Nat.zero_le _,rfl,rfl,HS.out⟩
 case round=>
  obtain⟨k,ao,m,cap,h,hk,rfl,HM,hI⟩:=hrel;clear HS;have ab:=hI.ab
  by_cases hlt:k<n
  ·have hlt':(k:Int)<n:=by omega
   have oc:=hI.oc;have of:=hI.of
   rcases HH.out with ⟨h0,_⟩ | ⟨b,o,h2,rfl,HA⟩
   ·omega
   have HA':=HA.below hI.below;have d0:=HA'.c0 k hlt;have d1:=HA'.c1 k hlt;have fit:=HF.out.each k hlt;have fn:=HF.out.big;have sp:=(HA'.dv k hlt).sn;have sq:=(HA'.dv k hlt).sm;have sb:=(HA'.dv k hlt).nb;have sb':=(HA'.dv k hlt).mb;have C1:=hid (Yy (h2 k).x (h2 k).p (h2 k).c (h2 k).y (h2 k).q (h2 k).d (dev A k) wr.drew ((HA'.dv k hlt).below ((Below.refl _ _).drew)) (by rw[sp]; omega) (by rw[sq]; omega))
   have HI:=hid hI;have HQ:=hid (And.intro sp (And.intro sq (And.intro sb sb')));clear hI HA HA' sp sq sb sb' fit;go_wp2_with fail
   go_region_law (first
    | (refine Jk rfl (.tmp 14) (.tmp 21) rfl (w.heap.size+3) (.slice ao m cap) k (XB h k) rfl HV.out.1.own ⟨w4.heap.size,0,none⟩ (.slice x4 (h2 k).p e4) (.slice y4 (h2 k).q f4) rfl HV.out.2.1 (by simp[Value.oneCell']) (by omega) (by have:=HV.out.1.lt; omega) ?_; intro g5 m5 cap5 w5 hm5 hg5 hown5 hgrow5; (have P5:=HV.out.1.put (d:=⟨x4,(h2 k).p,e4,y4,(h2 k).q,f4⟩) hgrow5 hm5.out hown5 HV.out.2.2); (have p0:=P5.1.1); (have p1:=P5.1.2); (have H5:=hid (And.intro P5.2 hm5.out)); clear P5 hown5 hgrow5)
    | (go_simp; go_at_call 38; go_wp2_with (go_at_call 38; refine C1.out.mono ?_; rintro _ w4 ⟨x4,e4,y4,f4,rfl,hN,g4⟩; (have I4:=HI.out.to (undrew g4)); (have a4:=I4.ab); (have o4:=I4.oc); (have HV:=hid (cp_new I4 hN (undrew g4) HI.out.lt HQ.out e4 f4)); (have o5:=HV.out.1.oc); (have a5:=HV.out.1.ab); clear I4 hN g4)))
   all_goals go_wp2
   all_goals go_roundw
   all_goals (first | (case rel=>exact⟨k+1,some ⟨g5,0,none⟩,m5,cap5,_,by omega,by go_num,H5.out.2,H5.out.1⟩) | skip)
   all_goals (simp[intOf]; omega)
  ·obtain rfl:k=n:=by omega
   have hnl:¬ (k:Int)<k:=by omega
   obtain rfl:m=k:=HM.out;have oc:=hI.oc;have rc:=hI.rc;have rf:=hI.rf;have y0:=World.cell?_setCell_same wr ⟨w.heap.size+1,0,none⟩ (.slice ao m cap) rc
   have K:=hid (show Z7c w m A _ _ from ⟨ao,cap,rfl,cp_end hI (HH.out.nb) HH.out.len⟩);clear hI;go_wp2
   refine bodyPost_ret (v:=.agg #[.slice ao m cap]) (by simp[results,Tryz.results13,go_sem,y0]) rfl ?_
   exact K.out
theorem XR (a:Option Addr) (n c:Nat) (A:Ar) (w:World) (H:Z5 w a n A) (hf:QS n A):
  Calls Tryz.prog 13 #[.agg #[.slice a n c]] w (OutC w n A):=(Z2C a n c A w H hf).mono fun _ _ h=>h.out
end Go.Proofs.YtdnacpbgodooaaaGreatDoor
namespace Go.Proofs.YtdnacpbgodooaaaGreatDoor
open Go.RowKit Go.Lib
theorem ZU (a:Option Addr) (n c:Nat) (i:Int) (A:Ar) (w:World) (H:Z5 w a n A):
  Calls Tryz.prog 135 #[.agg #[.slice a n c],.int .i64 i] w fun e w'=>e=.returned (.int .i64 (arTouch A i))∧Below w.heap.size w w':=by
 obtain⟨W,hW⟩:∃ W,W=w.alloc (.cells #[.slice a n c] 26):=⟨_,rfl⟩;have hB:Below w.heap.size w W:=by rw[hW]; go_grown
 have hz:W.heap.size=w.heap.size+1:=by rw[hW]; simp
 have c0:W.cell? ⟨w.heap.size,0,none⟩=some (.slice a n c):=by rw[hW]; simp
 have hM:=Xz a n c A W (H.below hB);rw[hW] at hM;unfold arTouch;cases hm:Z2 A with
 | false=>
  rw[hm] at hM;rw[if_neg (by decide)]
  have HM:=hid hM;have HP:=hid (And.intro hB hW);clear hM hB hz c0 H hm hW;go_enter Tryz.func135,Tryz.ntmps135
  go_wp2_with fail
  refine HM.out.mono ?_
  rintro _ w1 ⟨rfl,g1⟩;rw[<- HP.out.2] at g1;go_wp2
  go_ret
  exact⟨rfl,HP.out.1.trans (g1.mono HP.out.1.size)⟩
 | true=>
  rw[hm] at hM;rw[if_pos rfl];have hmm:=(arMay_iff A).1 hm
  rcases H with ⟨h0,h1⟩ | ⟨b,o,h,rfl,H⟩
  ·rw[h1] at hmm; cases hmm.1
  ·obtain rfl:n=3:=by rw[H.sn]; exact hmm.1
   have HA:=H.below hB;obtain⟨⟨t0,_⟩,_⟩:=HA.three;have s0:many A=(h 0).p:=(HA.dv 0 (by omega)).sn.symm
   have nb:(h 0).p<=64:=by rw[<- s0]; exact hmm.2.2.2.1
   have nb1:16<=(h 0).p:=by rw[<- s0]; exact hmm.2.2.1
   rw[s0];have HM:=hid hM;have HP:=hid (And.intro hB (And.intro hW (And.intro hz (And.intro c0 (And.intro t0 HA.lt)))));have hi:=fun wx=>Zm i 0 (((h 0).p:Int)-1) wx
   have hdd:decide ((0:Int)<=i∧i<=((h 0).p:Int)-1)=decide (0<=i∧i<(h 0).p):=by rw[decide_eq_decide]; omega
   rw[hdd] at hi;clear hM hB hz c0 H HA hm hW t0 s0 hmm hdd;generalize (h 0).p=p at nb nb1 HP hi;have HI:=hid hi;clear hi
   by_cases hin:0<=i∧i<p
   ·rw[if_pos hin]
    rw[decide_eq_true hin] at HI;clear hin;go_enter Tryz.func135,Tryz.ntmps135
    go_wp2_with fail
    refine HM.out.mono ?_
    rintro _ w1 ⟨rfl,g1⟩;rw[<- HP.out.2.1] at g1;have d0:=(g1.cell (p:=⟨w.heap.size,0,none⟩) (by show w.heap.size<W.heap.size; rw[HP.out.2.2.1]; omega)).trans HP.out.2.2.2.1
    have d1:=(g1.cell (p:=⟨b,o,none⟩) HP.out.2.2.2.2.2).trans HP.out.2.2.2.2.1;have HG:=hid g1;clear g1;go_wp2_with (go_at_call 28; refine (HI.out _).mono ?_; rintro _ w9 ⟨rfl,h9⟩; (have h8:=h9.symm); subst h8)
    go_ret
    exact⟨rfl,HP.out.1.trans (HG.out.mono HP.out.1.size)⟩
   ·rw[if_neg hin]
    rw[decide_eq_false hin] at HI;clear hin;go_enter Tryz.func135,Tryz.ntmps135
    go_wp2_with fail
    refine HM.out.mono ?_
    rintro _ w1 ⟨rfl,g1⟩;rw[<- HP.out.2.1] at g1;have d0:=(g1.cell (p:=⟨w.heap.size,0,none⟩) (by show w.heap.size<W.heap.size; rw[HP.out.2.2.1]; omega)).trans HP.out.2.2.2.1
    have d1:=(g1.cell (p:=⟨b,o,none⟩) HP.out.2.2.2.2.2).trans HP.out.2.2.2.2.1;have HG:=hid g1;clear g1;go_wp2_with (go_at_call 28; refine (HI.out _).mono ?_; rintro _ w9 ⟨rfl,h9⟩; (have h8:=h9.symm); subst h8)
    go_ret
    exact⟨rfl,HP.out.1.trans (HG.out.mono HP.out.1.size)⟩
theorem ZH (a:Option Addr) (n c:Nat) (i:Int) (A:Ar) (w:World) (H:Z5 w a n A):
  Calls Tryz.prog 77 #[.agg #[.slice a n c],.int .i64 i] w fun e w'=>e=.returned (.tuple #[.string (str (arRead A i).1),.int .i64 (arRead A i).2.1,.int .i64 (arRead A i).2.2])∧Below w.heap.size w w':=by
 obtain⟨W,hW⟩:∃ W,W=w.alloc (.cells #[.slice a n c] 26):=⟨_,rfl⟩;have hB:Below w.heap.size w W:=by rw[hW]; go_grown
 have hz:W.heap.size=w.heap.size+1:=by rw[hW]; simp
 have c0:W.cell? ⟨w.heap.size,0,none⟩=some (.slice a n c):=by rw[hW]; simp
 have hT:=ZU a n c i A W (H.below hB);rw[hW] at hT
 by_cases ht:arTouch A i=0
 ·obtain⟨hm,h0,h1⟩:=Xh A i ht
  have hmm:=(arMay_iff A).1 hm;obtain⟨k,rfl⟩:∃ k:Nat,i=k:=⟨i.toNat,by omega⟩
  have hto:(k:Int).toNat=k:=by omega
  rw[arRead,if_pos ht,hto];rw[ht] at hT
  rcases H with ⟨_,h1⟩ | ⟨b,o,h,rfl,H⟩
  ·rw[h1] at hmm; cases hmm.1
  obtain rfl:n=3:=by rw[H.sn]; exact hmm.1
  have HT:=hid hT;have HP:=hid (And.intro hB (And.intro hW (And.intro hz (And.intro c0 (H.below hB)))));have hk64:k<=64:=by omega
  have C1:=hid (fun wx (g:Below W.heap.size W wx)=>U0 b o c h A k wx ((H.below hB).below g))
  clear hT hB hz c0 H hm hW ht h0 h1 hto hmm;unfold tell
  by_cases e1:0<(mirr A k).2
  ·rw[if_pos e1]
   generalize mirr A k=r at C1 e1;go_enter Tryz.func77,Tryz.ntmps77
   go_wp2_with fail
   refine HT.out.mono ?_
   rintro _ w1 ⟨rfl,g1⟩;rw[<- HP.out.2.1] at g1;have d0:=(g1.cell (p:=⟨w.heap.size,0,none⟩) (by show w.heap.size<W.heap.size; rw[HP.out.2.2.1]; omega)).trans HP.out.2.2.2.1
   have G1:=hid g1;clear g1;go_wp2_with fail
   refine (C1.out _ G1.out).mono ?_
   rintro _ w2 ⟨rfl,g2⟩;go_wp2
   go_ret3
   exact⟨rfl,HP.out.1.trans ((G1.out.trans (g2.mono G1.out.size)).mono HP.out.1.size)⟩
  ·rw[if_neg e1]
   have e1':(mirr A k).2=0:=by rcases Qn A k with h | h; exact h; exact absurd h e1
   have e1'':(mirr A k).2<=0:=by omega
   have C0:=hid (fun wx=>Yz k wx (by omega))
   have C2:=hid (fun wx (g:Below W.heap.size W wx)=>U0 b o c h A (part k) wx (HP.out.2.2.2.2.below g))
   have C3:=hid (fun wx (g:Below W.heap.size W wx)=>Xd (h 2).x (h 2).p (h 2).c (h 2).y (h 2).q (h 2).d ((k / 2:Nat):Int) ((512+k / 2:Nat):Int) (dev A 2) wx ((HP.out.2.2.2.2.below g).dv 2 (by omega)))
   have hb:=Qn A (part k);have hl:=mirr_len A (part k);have hp:(pari A k).2=0->(pari A k).1.length=24:=Yi _ _ _;change Hid (∀ wx,Below W.heap.size W wx->Calls Tryz.prog _ _ wx fun e w'=>e=.returned (.tuple #[.string (str (pari A k).1),.int .i64 (pari A k).2])∧Below wx.heap.size wx w') at C3
   generalize mirr A k=r0 at C1 e1 e1' e1'';generalize mirr A (part k)=r1 at C2 hb hl;generalize pari A k=r2 at C3 hp;have q1:((k / 2:Nat):Int)=(k:Int) / 2:=by omega
   have q2:((512+k / 2:Nat):Int)=512+(k:Int) / 2:=by omega
   rw[q1,q2] at C3;have HL:=hid (And.intro hb (And.intro hl hp));generalize hF:(if r1.2=0∨r2.2≠0 then (([],0,11):List UInt8 × Int × Int) else (xors r2.1 r1.1,3,0))=F
   have HF:=hid hF;clear hF;clear q1 q2 e1 hb hl hp;go_enter Tryz.func77,Tryz.ntmps77
   go_wp2_with fail
   refine HT.out.mono ?_
   rintro _ w1 ⟨rfl,g1⟩;rw[<- HP.out.2.1] at g1;have d0:=(g1.cell (p:=⟨w.heap.size,0,none⟩) (by show w.heap.size<W.heap.size; rw[HP.out.2.2.1]; omega)).trans HP.out.2.2.2.1
   have G1:=hid g1;clear g1 HT;go_wp2_with fail
   refine (C1.out _ G1.out).mono ?_
   rintro _ w2 ⟨rfl,g2⟩;have G2:=hid (G1.out.trans (g2.mono G1.out.size));clear g2 G1 C1 d0;have d0:=(G2.out.cell (p:=⟨w.heap.size,0,none⟩) (by show w.heap.size<W.heap.size; rw[HP.out.2.2.1]; omega)).trans HP.out.2.2.2.1
   go_upto_region 7 with fail
   go_cut [10,11] (fun s10 s11 wx=>s10=.string (str r1.1)∧s11=.int .i64 r1.2∧Below W.heap.size W wx)
   case first=>
    go_region_held3 (fun w'=>w'.cell? ⟨w.heap.size,0,none⟩=some (.slice (some ⟨b,o,none⟩) 3 c)) (go_keep)
     (first | (go_at_call 133; refine (C0.out _).mono ?_; rintro _ w9 ⟨rfl,h9⟩; (have h8:=h9.symm); subst h8) | (go_at_call 136; refine (C2.out _ G2.out.drew).mono ?_; rintro _ w9 ⟨rfl,g9⟩; (have G9:=hid (G2.out.drew.trans (g9.mono G2.out.drew.size))); (have j0:=(G9.out.cell (p:=⟨w.heap.size,0,none⟩) (by show w.heap.size<W.heap.size; rw[HP.out.2.2.1]; omega)).trans HP.out.2.2.2.1); clear g9))
    all_goals (go_wp2_with fail; go_meet)
    all_goals exact⟨rfl,rfl,G9.out⟩
   case rest=>
    obtain⟨rfl,rfl,hB⟩:=hcut;have G3:=hid hB;clear hB G2 d0 C0 C2;have d0:=(G3.out.cell (p:=⟨w.heap.size,0,none⟩) (by show w.heap.size<W.heap.size; rw[HP.out.2.2.1]; omega)).trans HP.out.2.2.2.1
    obtain⟨_,_,t4,t5⟩:=(HP.out.2.2.2.2.below G3.out).three;go_wp2_with fail
    refine (C3.out _ G3.out).mono ?_
    rintro _ w4 ⟨rfl,g4⟩;have G4:=hid (G3.out.trans (g4.mono G3.out.size));clear g4 G3 C3 d0 t4 t5
    by_cases f1:r1.2=0
    ·have f1':(r1.2==0)=true:=beq_iff_eq.2 f1
     have HG:Hid (F=([],0,11)):=by show _=_; rw[<- HF.out,if_pos (.inl f1)]
     clear f1;go_wp2
     go_ret3
     exact⟨by rw[HG.out]; rfl,HP.out.1.trans (G4.out.mono HP.out.1.size)⟩
    ·have f1':(r1.2==0)=false:=beq_eq_false_iff_ne.2 f1
     by_cases f2:r2.2=0
     ·have f2':(r2.2 != 0)=false:=bne_eq_false_iff_eq.2 f2
      have HG:Hid (F=(xors r2.1 r1.1,3,0)):=by show _=_; rw[<- HF.out,if_neg (by rintro (h | h); exact f1 h; exact h f2)]
      have l1:=HL.out.2.1 f1;have l2:=HL.out.2.2 f2;have CO:=hid (fun wx=>Yd (str r2.1) (str r1.1) wx (by rw[str_size,l2]; omega) (by rw[str_size,str_size,l1,l2]; exact Nat.le_refl _) (by rw[str_size,l1]; omega))
      rw[str_list,str_list] at CO;clear f1 f2 l1 l2;go_wp2_with fail
      refine (CO.out _).mono ?_
      rintro _ w5 ⟨rfl,g5⟩;go_wp2
      go_ret3
      exact⟨by rw[HG.out]; rfl,HP.out.1.trans ((G4.out.trans (g5.mono G4.out.size)).mono HP.out.1.size)⟩
     ·have f2':(r2.2 != 0)=true:=bne_iff_ne.2 f2
      have HG:Hid (F=([],0,11)):=by show _=_; rw[<- HF.out,if_pos (.inr f2)]
      clear f1 f2;go_wp2
      go_ret3
      exact⟨by rw[HG.out]; rfl,HP.out.1.trans (G4.out.mono HP.out.1.size)⟩
 ·rw[arRead,if_neg ht]
  have HT:=hid hT;have HP:=hid (And.intro hB hW);clear hT hB hz c0 H hW;generalize arTouch A i=t at HT ht;have ht':(t != 0)=true:=bne_iff_ne.2 ht;clear ht;go_enter Tryz.func77,Tryz.ntmps77
  go_wp2_with fail
  refine HT.out.mono ?_
  rintro _ w1 ⟨rfl,g1⟩;rw[<- HP.out.2] at g1;go_wp2
  go_ret3
  exact⟨rfl,HP.out.1.trans (g1.mono HP.out.1.size)⟩
end Go.Proofs.YtdnacpbgodooaaaGreatDoor
namespace Go.Proofs.YtdnacpbgodooaaaGreatDoor
open Go.RowKit Go.Lib
theorem T9 (a:Option Addr) (n c:Nat) (i:Int) (s:ByteArray) (A:Ar) (w:World) (H:Z5 w a n A) (ht:arTouch A i≠0):
  Calls Tryz.prog 128 #[.agg #[.slice a n c],.int .i64 i,.string s] w (OutA w ([],arTouch A i)):=by
 obtain⟨W,hW⟩:∃ W,W=(w.alloc (.cells #[.slice a n c] 26)).alloc (.cells #[.slice none 0 0] 26):=⟨_,rfl⟩;have hB:Below w.heap.size w W:=by rw[hW]; go_grown
 have hz:W.heap.size=w.heap.size+2:=by rw[hW]; simp
 have rc:W.cell? ⟨w.heap.size+1,0,none⟩=some (.slice none 0 0):=by rw[hW]; simp[go_sem]
 have rf:W.frozen? ⟨w.heap.size+1,0,none⟩=false:=by rw[hW]; simp[go_sem]
 have HT:=hid (ZU a n c i A W (H.below hB));have HP:=hid (And.intro hB (And.intro hz (And.intro rc rf)));have HK:=hid (fun x w' (g:Below w.heap.size w w')=>Zp (x:=x) g)
 generalize arTouch A i=t at HT ht;have ht':(t != 0)=true:=bne_iff_ne.2 ht;have ht2:(t==0)=false:=beq_eq_false_iff_ne.2 ht;rw[hW] at HT;have HE:=hid hW;clear ht hB hz rc rf H hW;go_enter Tryz.func128,Tryz.ntmps128
 go_wp2_with fail
 refine HT.out.mono ?_
 rintro _ w1 ⟨rfl,g1⟩;rw[<- HE.out] at g1;have r1:=(g1.cell (p:=⟨w.heap.size+1,0,none⟩) (by show w.heap.size+1<W.heap.size; rw[HP.out.2.1]; omega)).trans HP.out.2.2.1
 have r2:=(g1.frozen (p:=⟨w.heap.size+1,0,none⟩) (by show w.heap.size+1<W.heap.size; rw[HP.out.2.1]; omega)).trans HP.out.2.2.2
 have y0:=World.cell?_setCell_same w1 ⟨w.heap.size+1,0,none⟩ (.slice none 0 0) r1
 have G1:=hid ((bel3 HP.out.1 g1).setCell (p:=⟨w.heap.size+1,0,none⟩) (by show w.heap.size<=w.heap.size+1; omega) (.slice none 0 0))
 clear g1;go_wp2
 refine bodyPost_ret (v:=.tuple #[.agg #[.slice none 0 0],.int .i64 t]) (by simp[results,Tryz.results128,go_sem,y0]) rfl ?_
 exact HK.out _ _ G1.out
theorem Tp (a:Option Addr) (n c:Nat) (i:Int) (s:ByteArray) (A:Ar) (w:World) (H:Z5 w a n A) (ht:arTouch A i=0) (hs:24<s.size):
  Calls Tryz.prog 128 #[.agg #[.slice a n c],.int .i64 i,.string s] w (OutA w ([],1)):=by
 obtain⟨W,hW⟩:∃ W,W=(w.alloc (.cells #[.slice a n c] 26)).alloc (.cells #[.slice none 0 0] 26):=⟨_,rfl⟩;have hB:Below w.heap.size w W:=by rw[hW]; go_grown
 have hz:W.heap.size=w.heap.size+2:=by rw[hW]; simp
 have rc:W.cell? ⟨w.heap.size+1,0,none⟩=some (.slice none 0 0):=by rw[hW]; simp[go_sem]
 have rf:W.frozen? ⟨w.heap.size+1,0,none⟩=false:=by rw[hW]; simp[go_sem]
 have HT:=hid (ZU a n c i A W (H.below hB));have HP:=hid (And.intro hB (And.intro hz (And.intro rc rf)));have HK:=hid (fun x w' (g:Below w.heap.size w w')=>Zp (x:=x) g)
 rw[ht,hW] at HT;have hs':(24:Int)<s.size:=by omega
 have HE:=hid hW;clear ht hB hz rc rf H hW;go_enter Tryz.func128,Tryz.ntmps128
 go_wp2_with fail
 refine HT.out.mono ?_
 rintro _ w1 ⟨rfl,g1⟩;rw[<- HE.out] at g1;have r1:=(g1.cell (p:=⟨w.heap.size+1,0,none⟩) (by show w.heap.size+1<W.heap.size; rw[HP.out.2.1]; omega)).trans HP.out.2.2.1
 have r2:=(g1.frozen (p:=⟨w.heap.size+1,0,none⟩) (by show w.heap.size+1<W.heap.size; rw[HP.out.2.1]; omega)).trans HP.out.2.2.2
 have y0:=World.cell?_setCell_same w1 ⟨w.heap.size+1,0,none⟩ (.slice none 0 0) r1
 have G1:=hid ((bel3 HP.out.1 g1).setCell (p:=⟨w.heap.size+1,0,none⟩) (by show w.heap.size<=w.heap.size+1; omega) (.slice none 0 0))
 clear g1;go_wp2
 refine bodyPost_ret (v:=.tuple #[.agg #[.slice none 0 0],.int .i64 1]) (by simp[results,Tryz.results128,go_sem,y0]) rfl ?_
 exact HK.out _ _ G1.out
def load59:Op:=Op.load 56 (Operand.tmp 59)
@[go_sem] theorem JU:load59=Op.load 56 (Operand.tmp 59):=rfl
def load83:Op:=Op.load 56 (Operand.tmp 83)
@[go_sem] theorem Z4O:load83=Op.load 56 (Operand.tmp 83):=rfl
theorem Z0g (b o c:Nat) (h:Nat->Hd) (k:Nat) (s:ByteArray) (A:Ar) (w:World) (H:Arr w b o 3 h A) (hm:Z2 A=true) (hk:k<many A) (hs:s.size<=24):
  Calls Tryz.prog 128 #[.agg #[.slice (some ⟨b,o,none⟩) 3 c],.int .i64 k,.string s] w (OutA w (put A k s.data.toList,0)):=by
 obtain⟨W,hW⟩:∃ W,W=(w.alloc (.cells #[.slice (some ⟨b,o,none⟩) 3 c] 26)).alloc (.cells #[.slice none 0 0] 26):=⟨_,rfl⟩;have hB:Below w.heap.size w W:=by rw[hW]; go_grown
 have hz:W.heap.size=w.heap.size+2:=by rw[hW]; simp
 have rc:W.cell? ⟨w.heap.size+1,0,none⟩=some (.slice none 0 0):=by rw[hW]; simp[go_sem]
 have rf:W.frozen? ⟨w.heap.size+1,0,none⟩=false:=by rw[hW]; simp[go_sem]
 have c0:W.cell? ⟨w.heap.size,0,none⟩=some (.slice (some ⟨b,o,none⟩) 3 c):=by rw[hW]; simp[go_sem]
 have hmm:=(arMay_iff A).1 hm;have hk64:k<=64:=by omega
 have HA:∀ wx,Below W.heap.size W wx->Z5 wx (some ⟨b,o,none⟩) 3 A:=fun wx g=>.inr ⟨b,o,h,rfl,(H.below hB).below g⟩
 have HT:=hid (ZU (some ⟨b,o,none⟩) 3 c k A W (HA W (Below.refl _ _)));have ht:arTouch A k=0:=by rw[arTouch,if_pos hm,if_pos ⟨by omega,by omega⟩]
 rw[ht,hW] at HT;have CR:=hid (fun wx (g:Below W.heap.size W wx)=>ZH (some ⟨b,o,none⟩) 3 c (part k) A wx (HA wx g))
 rw[Zl A (part k) hm (WP k _ hk hmm.2.2.2.2.1)] at CR;have CC:=hid (fun wx (g:Below W.heap.size W wx)=>XR (some ⟨b,o,none⟩) 3 c A wx (HA wx g) (ZN A hm))
 have CN:=hid (fun wx=>Yz k wx (by omega))
 have HL:=hid (ZR A (part k));have H3:=hid (tell_three A (part k));have HPut:=hid (Z4p A k s.data.toList);have HMid:=hid (show mid A k=if (tell A (part k)).2.1=3 then both A (part k) (tell A (part k)).1 else A from rfl)
 generalize put A k s.data.toList=T at HPut;generalize tell A (part k)=r at CR HL H3 HMid HPut;generalize mid A k=A1 at HMid HPut;have hs':¬ (24:Int)<s.size:=by omega
 have HS:=hid hs;have HP:=hid (And.intro hB (And.intro hz (And.intro c0 (And.intro rc rf))));have HE:=hid hW;clear hB hz rc rf c0 H hW HA hm hk hmm ht hs;go_enter Tryz.func128,Tryz.ntmps128
 go_wp2_with fail
 refine HT.out.mono ?_
 rintro _ w1 ⟨rfl,g1⟩;rw[<- HE.out] at g1;have d0:=(g1.cell (p:=⟨w.heap.size,0,none⟩) (by show w.heap.size<W.heap.size; rw[HP.out.2.1]; omega)).trans HP.out.2.2.1
 have G1:=hid g1;clear g1 HT HE;go_wp2_with fail
 clear hs';refine (CC.out _ G1.out).mono ?_
 rintro _ w3 ⟨a3,c3,rfl,h3,g3⟩
 rcases h3 with ⟨h30,_⟩ | ⟨b3,hd3,rfl,hb3,hf3⟩
 ·omega
 have hst:=XJ (pr:=w.heap.size+1) (cc:=c3) HP.out.1 (by omega) (by rw[HP.out.2.1]; omega) HP.out.2.2.2.1 HP.out.2.2.2.2 (bel3 G1.out g3) (Nat.le_trans G1.out.size hb3) hf3
 have S3:=hid hst;go_upto_region 7 with fail
 obtain⟨W3,hW3⟩:∃ W3,W3=w3.alloc (.cells #[.slice (some ⟨b3,0,none⟩) 3 c3] 26):=⟨_,rfl⟩;have b3':Below w3.heap.size w3 W3:=by rw[hW3]; exact (Below.refl _ w3).alloc (Nat.le_refl _) _
 have G3:=hid (bel3 (bel3 G1.out g3) b3');rw[<- hW3] at S3 ⊢;clear hW3 hst hf3 hb3 g3 d0 G1 CC b3';generalize w3.heap.size=pc at S3 ⊢;have d0:=(G3.out.cell (p:=⟨w.heap.size,0,none⟩) (by show w.heap.size<W.heap.size; rw[HP.out.2.1]; omega)).trans HP.out.2.2.1
 go_cut [10,11,12] (fun s10 s11 s12 wx=>s10=.string (str r.1)∧s11=.int .i64 r.2.1∧s12=.int .i64 r.2.2∧WrI w (w.heap.size+1) pc b3 c3 A wx)
 case first=>
  go_region_held3 (fun w'=>w'.cell? ⟨w.heap.size,0,none⟩=some (.slice (some ⟨b,o,none⟩) 3 c)) (go_keep)
   (first | (go_at_call 133; refine (CN.out _).mono ?_; rintro _ w9 ⟨rfl,h9⟩; (have h8:=h9.symm); subst h8) | (go_at_call 77; refine (CR.out _ G3.out.drew).mono ?_; rintro _ w9 ⟨rfl,g9⟩; (have G9:=hid (bel3 G3.out.drew g9)); (have S9:=hid (S3.out.to (undrew g9))); (have j0:=(G9.out.cell (p:=⟨w.heap.size,0,none⟩) (by show w.heap.size<W.heap.size; rw[HP.out.2.1]; omega)).trans HP.out.2.2.1); clear g9))
  all_goals (go_wp2_with fail; go_meet)
  all_goals exact⟨rfl,rfl,rfl,S9.out⟩
 case rest=>
  obtain⟨rfl,rfl,rfl,hB⟩:=hcut;clear S3 G3;have S3:=hid hB;clear hB d0 CR
  by_cases h3:r.2.1=3
  ·have h3':(r.2.1==3)=true:=beq_iff_eq.2 h3
   have h4':(r.2.2==0)=true:=beq_iff_eq.2 (H3.out h3);have HM:Hid (A1=both A (part k) r.1):=by show _=_; rw[HMid.out,if_pos h3]
   obtain⟨h3d,f3⟩:=S3.out.fr;have CW:=hid (fun wx (g:Below wc.heap.size wc wx)=>Yu b3 0 c3 h3d A (part k) (str r.1) wx (f3.below g))
   rw[str_list,<- HM.out] at CW;have d1:=S3.out.cb;have E0:=hid (H3.out h3);clear f3 h3 HMid HM;go_upto_region 9 with fail
   clear h3' h4';go_cut [] (fun wx=>WrI w (w.heap.size+1) pc b3 c3 A1 wx)
   case first=>
    go_region_held3 (fun w'=>w'.cell? ⟨pc,0,none⟩=some (.slice (some ⟨b3,0,none⟩) 3 c3)) (go_keep)
     (first | (go_at_call 133; refine (CN.out _).mono ?_; rintro _ w9 ⟨rfl,h9⟩; (have h8:=h9.symm); subst h8) | (go_at_call 173; refine (CW.out _ ((Below.refl _ wc).drew)).mono ?_; rintro _ w9 ⟨rfl,g9,f9⟩; (have S9:=hid (S3.out.drew.grown g9 f9)); (have j0:=S9.out.cb); clear g9 f9))
    all_goals (go_wp2_with fail; go_meet)
    all_goals exact S9.out
   case rest=>
    have S4:=hid hcut;clear hcut S3 CW d1;obtain⟨h4,f4⟩:=S4.out.fr;have CW:=hid (Yu b3 0 c3 h4 A1 k s _ f4);have d1:=S4.out.cb;clear f4;go_wp2_with fail
    refine CW.out.mono ?_
    rintro _ w5 ⟨rfl,g5,f5⟩;have S5:=hid (S4.out.grown g5 f5);clear g5 f5 CW d1 S4;generalize both A1 k s.data.toList=A2 at S5 HPut;have e0:=E0.out;have e0':(r.2.2==0)=true:=beq_iff_eq.2 e0;have hl:=HL.out e0;have HPT:=hid (HPut.out.trans (if_pos e0));obtain⟨z,hz⟩:∃ z:Nat,z=24-s.size:=⟨_,rfl⟩;have u3:IntKind.i64.wrap (24-(s.size:Int))=(z:Int):=by have:=HS.out; rw[IntWalk.i64_in _ (by omega)]; omega
    have CZ:=hid (fun wx=>YF z wx (by omega))
    have epad:s++str (List.replicate z 0)=str (pad s.data.toList):=by
     rw[show s=str s.data.toList from (V7 s).symm,str_app,str_list,pad,ba_len,hz]
    have lp:(pad s.data.toList).length=24:=pad_length _ (by rw[ba_len]; exact HS.out)
    have ha:∀ wx,(Op.stringOp .add s (str (List.replicate z 0))).run Tryz.prog wx=.ok (.string (str (pad s.data.toList))) wx:=fun wx=>by
     rw[<- epad]; exact run_string_add_sum wx _ _ (by rw[str_size]; have:=HS.out; simp; omega)
    have CD:=hid (fun wx=>Yd (str (pad s.data.toList)) (str r.1) wx (by rw[str_size,lp]; omega) (by rw[str_size,str_size,lp,hl]; exact Nat.le_refl _) (by rw[str_size,hl]; omega))
    rw[str_list,str_list] at CD;obtain⟨h5,f5⟩:=S5.out.fr;have u1:IntKind.i64.wrap ((k:Int) / 2)=((k / 2:Nat):Int):=by rw[IntWalk.i64_in _ (by omega)]; omega
    have u2:IntKind.i64.wrap (512+((k / 2:Nat):Int))=((512+k / 2:Nat):Int):=by rw[IntWalk.i64_in _ (by omega)]; omega
    have CP:=hid (fun wx (g:Below w5.heap.size w5 wx)=>Zy (h5 2).x (h5 2).p (h5 2).c (h5 2).y (h5 2).q (h5 2).d ((k / 2:Nat):Int) ((512+k / 2:Nat):Int) (str (xors (pad s.data.toList) r.1)) (dev A2 2) wx ((f5.below g).arr.dv 2 (by omega)))
    rw[str_list] at CP;have d1:=S5.out.cb;obtain⟨_,_,t4,t5⟩:=f5.arr.three;rw[Nat.zero_add] at t4 t5;have F5:=hid f5;have HN:=hid (S5.out.lt.2.1);generalize dvWrite (dev A2 2) ((k / 2:Nat):Int) ((512+k / 2:Nat):Int) (xors (pad s.data.toList) r.1)=r2 at CP HPT;generalize ((512+k / 2:Nat):Int)=R at CP u2;generalize ((k / 2:Nat):Int)=Q at CP u1 u2;generalize str (xors (pad s.data.toList) r.1)=X at CD CP;generalize str (pad s.data.toList)=PP at CD ha;generalize str (List.replicate z 0)=NN at CZ ha;clear f5 e0 hl HPut HL epad lp hz;go_wp2_with fail
    rw[<- JU];go_region_held3 (fun w'=>w'.cell? ⟨pc,0,none⟩=some (.slice (some ⟨b3,0,none⟩) 3 c3)) (go_keep)
     (first | (go_at_call 69; refine (CZ.out _).mono ?_; rintro _ w9 ⟨rfl,h9⟩; (have h8:=h9.symm); subst h8) | (go_at_call 134; refine (CD.out _).mono ?_; rintro _ w6 ⟨rfl,g6⟩; (have G6:=hid (undrew g6)); (have j0:=(S5.out.to G6.out).cb); (have j4:=(G6.out.cell (p:=⟨b3,4,none⟩) F5.out.arr.lt).trans t4); (have j5:=(G6.out.cell (p:=⟨b3,5,none⟩) F5.out.arr.lt).trans t5); clear g6) | (go_at_call 130; refine (CP.out _ G6.out).mono ?_; rintro _ w7 ⟨x,p,e,y,q,d,rfl,hD,hF,g7⟩; (have Z:=stored (c:=e) (d:=d) (F5.out.below G6.out) (show 2<3 by omega) g7 hD); (have S7:=hid (((S5.out.to G6.out).grown Z.2.2) Z.2.1)); (have z0:w7.cell? ⟨b3,4,none⟩=some (.slice (h5 2).x (h5 2).p (h5 2).c):=Z.1.1); (have z1:w7.cell? ⟨b3,5,none⟩=some (.slice (h5 2).y (h5 2).q (h5 2).d):=Z.1.2.1); (have z2:w7.frozen? ⟨b3,4,none⟩=false:=Z.1.2.2.1); (have z3:w7.frozen? ⟨b3,5,none⟩=false:=Z.1.2.2.2); (have zb:=((S5.out.to G6.out).to g7).cb); (have zc:=S7.out.cb); clear g7 hD hF Z))
    all_goals have rc:=S7.out.rc
    all_goals have rf:=S7.out.rf
    all_goals have y0:=World.cell?_setCell_same _ ⟨w.heap.size+1,0,none⟩ (.slice (some ⟨b3,0,none⟩) 3 c3) rc
    all_goals go_wp2
    all_goals refine bodyPost_ret (v:=.tuple #[.agg #[.slice (some ⟨b3,0,none⟩) 3 c3],.int .i64 0]) (by simp[results,Tryz.results128,go_sem,y0]) rfl ?_
    all_goals (rw[HPT.out]; exact S7.out.out)
  ·have h3':(r.2.1==3)=false:=beq_eq_false_iff_ne.2 h3
   have HM:Hid (A1=A):=by show _=_; rw[HMid.out,if_neg h3]
   have S4:=S3;rw[<- HM.out] at S4;clear h3 HMid HM S3
   by_cases e0:r.2.2=0
   ·have e0'':(r.2.2==0)=true:=beq_iff_eq.2 e0
    obtain⟨h4,f4⟩:=S4.out.fr;have CW:=hid (Yu b3 0 c3 h4 A1 k s _ f4);have d1:=S4.out.cb;clear f4;go_wp2_with fail
    refine CW.out.mono ?_
    rintro _ w5 ⟨rfl,g5,f5⟩;have S5:=hid (S4.out.grown g5 f5);clear g5 f5 CW d1 S4;generalize both A1 k s.data.toList=A2 at S5 HPut;have e0':(r.2.2==0)=true:=beq_iff_eq.2 e0;have hl:=HL.out e0;have HPT:=hid (HPut.out.trans (if_pos e0));obtain⟨z,hz⟩:∃ z:Nat,z=24-s.size:=⟨_,rfl⟩;have u3:IntKind.i64.wrap (24-(s.size:Int))=(z:Int):=by have:=HS.out; rw[IntWalk.i64_in _ (by omega)]; omega
    have CZ:=hid (fun wx=>YF z wx (by omega))
    have epad:s++str (List.replicate z 0)=str (pad s.data.toList):=by
     rw[show s=str s.data.toList from (V7 s).symm,str_app,str_list,pad,ba_len,hz]
    have lp:(pad s.data.toList).length=24:=pad_length _ (by rw[ba_len]; exact HS.out)
    have ha:∀ wx,(Op.stringOp .add s (str (List.replicate z 0))).run Tryz.prog wx=.ok (.string (str (pad s.data.toList))) wx:=fun wx=>by
     rw[<- epad]; exact run_string_add_sum wx _ _ (by rw[str_size]; have:=HS.out; simp; omega)
    have CD:=hid (fun wx=>Yd (str (pad s.data.toList)) (str r.1) wx (by rw[str_size,lp]; omega) (by rw[str_size,str_size,lp,hl]; exact Nat.le_refl _) (by rw[str_size,hl]; omega))
    rw[str_list,str_list] at CD;obtain⟨h5,f5⟩:=S5.out.fr;have u1:IntKind.i64.wrap ((k:Int) / 2)=((k / 2:Nat):Int):=by rw[IntWalk.i64_in _ (by omega)]; omega
    have u2:IntKind.i64.wrap (512+((k / 2:Nat):Int))=((512+k / 2:Nat):Int):=by rw[IntWalk.i64_in _ (by omega)]; omega
    have CP:=hid (fun wx (g:Below w5.heap.size w5 wx)=>Zy (h5 2).x (h5 2).p (h5 2).c (h5 2).y (h5 2).q (h5 2).d ((k / 2:Nat):Int) ((512+k / 2:Nat):Int) (str (xors (pad s.data.toList) r.1)) (dev A2 2) wx ((f5.below g).arr.dv 2 (by omega)))
    rw[str_list] at CP;have d1:=S5.out.cb;obtain⟨_,_,t4,t5⟩:=f5.arr.three;rw[Nat.zero_add] at t4 t5;have F5:=hid f5;have HN:=hid (S5.out.lt.2.1);generalize dvWrite (dev A2 2) ((k / 2:Nat):Int) ((512+k / 2:Nat):Int) (xors (pad s.data.toList) r.1)=r2 at CP HPT;generalize ((512+k / 2:Nat):Int)=R at CP u2;generalize ((k / 2:Nat):Int)=Q at CP u1 u2;generalize str (xors (pad s.data.toList) r.1)=X at CD CP;generalize str (pad s.data.toList)=PP at CD ha;generalize str (List.replicate z 0)=NN at CZ ha;clear f5 e0 hl HPut HL epad lp hz;go_wp2_with fail
    rw[<- JU];go_region_held3 (fun w'=>w'.cell? ⟨pc,0,none⟩=some (.slice (some ⟨b3,0,none⟩) 3 c3)) (go_keep)
     (first | (go_at_call 69; refine (CZ.out _).mono ?_; rintro _ w9 ⟨rfl,h9⟩; (have h8:=h9.symm); subst h8) | (go_at_call 134; refine (CD.out _).mono ?_; rintro _ w6 ⟨rfl,g6⟩; (have G6:=hid (undrew g6)); (have j0:=(S5.out.to G6.out).cb); (have j4:=(G6.out.cell (p:=⟨b3,4,none⟩) F5.out.arr.lt).trans t4); (have j5:=(G6.out.cell (p:=⟨b3,5,none⟩) F5.out.arr.lt).trans t5); clear g6) | (go_at_call 130; refine (CP.out _ G6.out).mono ?_; rintro _ w7 ⟨x,p,e,y,q,d,rfl,hD,hF,g7⟩; (have Z:=stored (c:=e) (d:=d) (F5.out.below G6.out) (show 2<3 by omega) g7 hD); (have S7:=hid (((S5.out.to G6.out).grown Z.2.2) Z.2.1)); (have z0:w7.cell? ⟨b3,4,none⟩=some (.slice (h5 2).x (h5 2).p (h5 2).c):=Z.1.1); (have z1:w7.cell? ⟨b3,5,none⟩=some (.slice (h5 2).y (h5 2).q (h5 2).d):=Z.1.2.1); (have z2:w7.frozen? ⟨b3,4,none⟩=false:=Z.1.2.2.1); (have z3:w7.frozen? ⟨b3,5,none⟩=false:=Z.1.2.2.2); (have zb:=((S5.out.to G6.out).to g7).cb); (have zc:=S7.out.cb); clear g7 hD hF Z))
    all_goals have rc:=S7.out.rc
    all_goals have rf:=S7.out.rf
    all_goals have y0:=World.cell?_setCell_same _ ⟨w.heap.size+1,0,none⟩ (.slice (some ⟨b3,0,none⟩) 3 c3) rc
    all_goals go_wp2
    all_goals refine bodyPost_ret (v:=.tuple #[.agg #[.slice (some ⟨b3,0,none⟩) 3 c3],.int .i64 0]) (by simp[results,Tryz.results128,go_sem,y0]) rfl ?_
    all_goals (rw[HPT.out]; exact S7.out.out)
   ·have e0'':(r.2.2==0)=false:=beq_eq_false_iff_ne.2 e0
    obtain⟨h4,f4⟩:=S4.out.fr;have CW:=hid (Yu b3 0 c3 h4 A1 k s _ f4);have d1:=S4.out.cb;clear f4;go_wp2_with fail
    refine CW.out.mono ?_
    rintro _ w5 ⟨rfl,g5,f5⟩;have S5:=hid (S4.out.grown g5 f5);clear g5 f5 CW d1 S4;generalize both A1 k s.data.toList=A2 at S5 HPut;have e0':(r.2.2==0)=false:=beq_eq_false_iff_ne.2 e0;have HPT:=hid (HPut.out.trans (if_neg e0));obtain⟨h5,f5⟩:=S5.out.fr;have u1:IntKind.i64.wrap ((k:Int) / 2)=((k / 2:Nat):Int):=by rw[IntWalk.i64_in _ (by omega)]; omega
    have CP:=hid (fun wx (g:Below w5.heap.size w5 wx)=>WO (h5 2).x (h5 2).p (h5 2).c (h5 2).y (h5 2).q (h5 2).d ((k / 2:Nat):Int) (dev A2 2) wx ((f5.below g).arr.dv 2 (by omega)))
    have d1:=S5.out.cb;obtain⟨_,_,t4,t5⟩:=f5.arr.three;rw[Nat.zero_add] at t4 t5;have F5:=hid f5;generalize dvLose (dev A2 2) ((k / 2:Nat):Int)=r2 at CP HPT;generalize ((k / 2:Nat):Int)=Q at CP u1;clear f5 e0 HPut HL;go_wp2_with fail
    rw[<- Z4O];go_region_held3 (fun w'=>w'.cell? ⟨pc,0,none⟩=some (.slice (some ⟨b3,0,none⟩) 3 c3)) (go_keep)
     (first | (go_at_call 33; refine (CP.out _ ((Below.refl _ w5).drew)).mono ?_; rintro _ w7 ⟨x,p,e,y,q,d,rfl,hD,hF,g4⟩; (have g7:=undrew g4); (have Z:=stored (c:=e) (d:=d) F5.out (show 2<3 by omega) g7 hD); (have S7:=hid ((S5.out.grown Z.2.2) Z.2.1)); (have z0:w7.cell? ⟨b3,4,none⟩=some (.slice (h5 2).x (h5 2).p (h5 2).c):=Z.1.1); (have z1:w7.cell? ⟨b3,5,none⟩=some (.slice (h5 2).y (h5 2).q (h5 2).d):=Z.1.2.1); (have z2:w7.frozen? ⟨b3,4,none⟩=false:=Z.1.2.2.1); (have z3:w7.frozen? ⟨b3,5,none⟩=false:=Z.1.2.2.2); (have zb:=(S5.out.to g7).cb); (have zc:=S7.out.cb); clear g4 g7 hD hF Z))
    all_goals have rc:=S7.out.rc
    all_goals have rf:=S7.out.rf
    all_goals have y0:=World.cell?_setCell_same _ ⟨w.heap.size+1,0,none⟩ (.slice (some ⟨b3,0,none⟩) 3 c3) rc
    all_goals go_wp2
    all_goals refine bodyPost_ret (v:=.tuple #[.agg #[.slice (some ⟨b3,0,none⟩) 3 c3],.int .i64 0]) (by simp[results,Tryz.results128,go_sem,y0]) rfl ?_
    all_goals (rw[HPT.out]; exact S7.out.out)
theorem QM (a:Option Addr) (n c:Nat) (i:Int) (s:ByteArray) (A:Ar) (w:World) (H:Z5 w a n A):
  Calls Tryz.prog 128 #[.agg #[.slice a n c],.int .i64 i,.string s] w (OutA w (arWrite A i s.data.toList)):=by
 unfold arWrite
 by_cases ht:arTouch A i=0
 ·rw[if_pos ht]
  by_cases hs:24<s.data.toList.length
  ·rw[if_pos hs]
   exact Tp a n c i s A w H ht (by rw[ba_len] at hs; exact hs)
  ·rw[if_neg hs]
   obtain⟨hm,h0,h1⟩:=Xh A i ht;obtain⟨k,rfl⟩:∃ k:Nat,i=k:=⟨i.toNat,by omega⟩
   obtain⟨rfl,b,o,h,rfl,HX⟩:=Z8 H hm;rw[show (k:Int).toNat=k by omega]
   exact Z0g b o c h k s A w HX hm (by omega) (by rw[ba_len] at hs; omega)
 ·rw[if_neg ht]
  exact T9 a n c i s A w H ht
end Go.Proofs.YtdnacpbgodooaaaGreatDoor
