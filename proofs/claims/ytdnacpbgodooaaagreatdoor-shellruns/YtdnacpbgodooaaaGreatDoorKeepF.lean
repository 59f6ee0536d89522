import Derived.Test.YtdnacpbgodooaaaGreatDoorArcAX
import Derived.Deep.Onto
import Derived.Test.YtdnacpbgodooaaaGreatDoorFilB
import Derived.Shelf.Strconv.Itoa3
import Derived.Lib.ItoaLen
import Derived.Test.YtdnacpbgodooaaaGreatDoorStraight
set_option maxHeartbeats 1600000
set_option maxRecDepth 4000
namespace Go.Proofs.YtdnacpbgodooaaaGreatDoor
open Go.RowKit Go.Lib
theorem Th (w:World) (t e ty:TypeId) (z:Value) (size bytes:Nat) (ht:Tryz.prog.underlying t=some (.slice e)) (hinfo:(Tryz.prog.info? e).map (fun i=>(i.zero,i.size,i.bytes))=some (some z,size,bytes)) (hz:z.cells.size=size) (hs:0<size)
  (ao:Option Addr) (n c:Nat) (V:List Value) (hV:V.length=n*size) (hno:ao=none->n=0) (hr:∀ ad,ao=some ad->∀ j u,V[j]?=some u->w.cell? (ad.add j)=some u) (h1:∀ v∈V,v.oneCell'=true) (h63:n<=maxLen) (hb:n*bytes<=140737488355328):
  ∃ ao' c' w',(Builtin.append_ #[t,t] ty #[.slice none 0 0,.slice ao n c]).run Tryz.prog w=.ok (.slice ao' n c') w'∧w'.ownsRow w.heap.size e size (.slice ao' n c') n V∧Below w.heap.size w w':=by
 obtain⟨i0,hi,hz0,hz1,hz2⟩:=info_parts hinfo;cases ao with
 | none=>
  have h0:=hno rfl;subst h0;have hV0:V=[]:=List.eq_nil_of_length_eq_zero (by omega)
  subst hV0;refine⟨none,0,w,?_,World.ownsRow_nil w _ e size,Below.refl _ _⟩
  simp[Builtin.append_,run_underlying ht,sizeOf,typeInfo,hi,Builtin.lenOf,Builtin.firstCells]
 | some ad=>
  obtain⟨v',w',hrun,r1,r2,_⟩:=run_append_own (P:=Tryz.prog) w w.heap.size t ty e i0 z size bytes ht hi hz0 hz1 hz2 hz hs (.slice none 0 0) 0 [] (World.ownsRow_nil w _ e size) ad n c V hV (hr ad rfl) h1 (by omega) (by rw[Nat.zero_add]; exact hb) (Nat.le_refl _)
  rw[Nat.zero_add,List.nil_append] at r1;have hbel:Below w.heap.size w w':=(Below.refl _ w).grown r2 (Nat.le_refl _) (fun k hk=>by cases hk)
  rcases r1.2 with ⟨rfl,h0⟩ | ⟨g,cap,cur,rfl,hg,_⟩
  ·subst h0
   exact⟨none,0,w',hrun,r1,hbel⟩
  ·exact⟨_,cap,w',hrun,r1,hbel⟩
theorem YW {ops:Array Oper} {o:Oper} {a:Act} {w:World} {K:Act->World->Prop} {Q:Exit->Act->World->Prop} {E:Prop}
  (t e:TypeId) (z:Value) (size bytes:Nat) (ht:Tryz.prog.underlying t=some (.slice e)) (hinfo:(Tryz.prog.info? e).map (fun i=>(i.zero,i.size,i.bytes))=some (some z,size,bytes)) (hz:z.cells.size=size) (hs:0<size)
  (hg:o.guard=none) (x:Operand) (hop:o.op=Op.call { callee:=Callee.builtin Builtin.append,args:=#[.const (.slice none 0 0),x],argTypes:=#[t,t] })
  (ao:Option Addr) (n c:Nat) (V:List Value) (hx:a.eval x=.slice ao n c) (hV:V.length=n*size) (hno:ao=none->n=0) (hr:∀ ad,ao=some ad->∀ j u,V[j]?=some u->w.cell? (ad.add j)=some u) (h1:∀ v∈V,v.oneCell'=true) (h63:n<=maxLen) (hb:n*bytes<=140737488355328)
  (hK:∀ ao' c' w',w'.ownsRow w.heap.size e size (.slice ao' n c') n V->Below w.heap.size w w'->K (a.put o.dst (.slice ao' n c')) w'):
  if Region.wanted o (yielded ops a.tmps)=true then Oper.wp Tryz.prog o a w K Q else E:=by
 have hw:Region.wanted o (yielded ops a.tmps)=true:=by simp[Region.wanted,hg]
 rw[if_pos hw];obtain⟨ao',c',w',hrun,r1,r2⟩:=Th w t e o.type z size bytes ht hinfo hz hs ao n c V hV hno hr h1 h63 hb;have hc:a.eval (.const (.slice none 0 0))=.slice none 0 0:=rfl;unfold Oper.wp;simp[execOp,hop,resolve,invoke,builtin,hx,hc,hrun,Result.andThen]
 exact hK ao' c' w' r1 r2
theorem YP.rows {w:World} {a:Option Addr} {n:Nat} {L:List Bk} (h:YP w a n L):(a=none->n=0)∧∀ ad,a=some ad->∀ j u,(blkV L)[j]?=some u->w.cell? (ad.add j)=some u:=by
 refine⟨fun e=>?_,fun ad e j u hj=>?_⟩
 ·rcases Nat.eq_zero_or_pos n with q | q
  ·exact q
  ·obtain⟨b,o,e',_⟩:=h.c 0 q
   rw[e] at e'; cases e'
 ·obtain⟨i,hi,_⟩:=QI L j u hj
  obtain⟨b,o,e',_⟩:=h.c i (by rw[h.sn]; exact hi)
  rw[e] at e';cases e'
  subst e;exact h.row j u hj
theorem YT.rows {w:World} {a:Option Addr} {n:Nat} {L:List En} (h:YT w a n L):(a=none->n=0)∧∀ ad,a=some ad->∀ j u,(entV L)[j]?=some u->w.cell? (ad.add j)=some u:=by
 refine⟨fun e=>?_,fun ad e j u hj=>?_⟩
 ·rcases Nat.eq_zero_or_pos n with q | q
  ·exact q
  ·obtain⟨b,o,e',_⟩:=h.c 0 q
   rw[e] at e'; cases e'
 ·obtain⟨i,hi,_⟩:=QA L j u hj
  obtain⟨b,o,e',_⟩:=h.c i (by rw[h.sn]; exact hi)
  rw[e] at e';cases e'
  subst e;exact h.row j u hj
def OutCp (w:World) (n m:Nat) (C:Ct) (e:Ending) (w':World):Prop:=∃ a c a' c',e=.returned (.agg #[.slice a n c,.slice a' m c'])∧W0 w' w.heap.size (.slice a n c) C.1∧Xv w' w.heap.size (.slice a' m c') C.2∧Below w.heap.size w w'
theorem JE (a:Option Addr) (n c:Nat) (a':Option Addr) (m c':Nat) (C:Ct) (w:World) (H:ZW w a n c a' m C) (hn:n<=100000) (hm:m<=100000):
  Calls Tryz.prog 63 #[.agg #[.slice a n c,.slice a' m c']] w fun e w'=>OutCp w n m C e w':=by
 obtain⟨W,hW⟩:∃ W,W=((w.alloc (.cells #[.slice a n c,.slice a' m c'] 83)).alloc (.cells #[.slice none 0 0,.slice none 0 0] 83)).drew:=⟨_,rfl⟩;have hz:W.heap.size=w.heap.size+2:=by rw[hW]; simp
 have hB:Below w.heap.size w W:=by rw[hW]; go_grown
 have c1:W.cell? ⟨w.heap.size,0,none⟩=some (.slice a n c):=by rw[hW]; simp
 have c2:W.cell? ⟨w.heap.size,1,none⟩=some (.slice a' m c'):=by rw[hW]; simp
 have r0:W.cell? ⟨w.heap.size+1,0,none⟩=some (.slice none 0 0):=by rw[hW]; simp
 have r1:W.cell? ⟨w.heap.size+1,1,none⟩=some (.slice none 0 0):=by rw[hW]; simp
 have f0:∀ o,W.frozen? ⟨w.heap.size+1,o,none⟩=false:=by intro o; rw[hW]; simp
 have HK:=hid (H.B.below hB).rows;have HF:=hid (H.E.below hB);have HL:=hid (And.intro (show (blkV C.1).length=n*2 by rw[Wz,H.B.sn]) (show (entV C.2).length=m*4 by rw[Wu,H.E.sn]))
 have HS:=hid (And.intro H.B.sn H.E.sn);have HW:=hid (And.intro hz (And.intro hB (And.intro c1 (And.intro c2 (And.intro r0 (And.intro r1 f0))))));have HE:=hid hW;clear H hz hB c1 c2 r0 r1 f0 hW;go_enter Tryz.func63,Tryz.ntmps63
 go_wp2_with fail
 go_region_law (first
  | (refine YW 80 100 _ 2 16 Tryz.underlying80 Vg rfl (by decide) rfl (.tmp 4) rfl a n c (blkV C.1) rfl HL.out.1 HK.out.1 (by rw[<- HE.out]; exact HK.out.2) (YE _) (by unfold maxLen; omega) (by omega) ?_; intro ao1 q1 w1 hN1 hB1; rw[<- HE.out] at hN1 hB1; (have cS2:=(hB1.cell (p:=⟨w.heap.size,1,none⟩) (by show w.heap.size<W.heap.size; rw[HW.out.1]; omega)).trans HW.out.2.2.2.1); (have cS3:=(hB1.cell (p:=⟨w.heap.size+1,0,none⟩) (by show w.heap.size+1<W.heap.size; rw[HW.out.1]; omega)).trans HW.out.2.2.2.2.1); (have cS4:=(hB1.cell (p:=⟨w.heap.size+1,1,none⟩) (by show w.heap.size+1<W.heap.size; rw[HW.out.1]; omega)).trans HW.out.2.2.2.2.2.1); (have fS:=fun o=>(hB1.frozen (p:=⟨w.heap.size+1,o,none⟩) (by show w.heap.size+1<W.heap.size; rw[HW.out.1]; omega)).trans (HW.out.2.2.2.2.2.2 o)); (have HX:=hid (And.intro hN1 hB1)); clear hN1 hB1)
  | (refine YW 81 95 _ 4 40 Tryz.underlying81 Vf rfl (by decide) rfl (.tmp 7) rfl a' m c' (entV C.2) rfl HL.out.2 (HF.out.below HX.out.2).rows.1 (HF.out.below HX.out.2).rows.2 (VY _) (by unfold maxLen; omega) (by omega) ?_; intro ao2 q2 w2 hN2 hB2; (have hsz:=HX.out.2.size); (have cL3:=(hB2.cell (p:=⟨w.heap.size+1,0,none⟩) (by show w.heap.size+1<w1.heap.size; have:=HW.out.1; omega)).trans cS3); (have cL4:=(hB2.cell (p:=⟨w.heap.size+1,1,none⟩) (by show w.heap.size+1<w1.heap.size; have:=HW.out.1; omega)).trans cS4); (have fL:=fun o=>(hB2.frozen (p:=⟨w.heap.size+1,o,none⟩) (by show w.heap.size+1<w1.heap.size; have:=HW.out.1; omega)).trans (fS o)); (have HY:=hid (And.intro hN2 hB2)); clear hN2 hB2))
 all_goals
  obtain⟨y0,y1⟩:=Z6 (.slice ao1 n q1) (.slice ao2 m q2) cL3 cL4;have hw0:=HW.out.1;have k1:W0 w2 (w.heap.size+2) (.slice ao1 n q1) C.1:=by
   have:=(chg_below (fun _=>False) HY.out.2).row HX.out.1 (fun _ _ q=>q)
   rw[hw0,HS.out.1] at this;rw[HS.out.1]; exact this
  have k2:Xv w2 (w.heap.size+2) (.slice ao2 m q2) C.2:=by
   have:=HY.out.1.mono (base':=w.heap.size+2) (by omega)
   rw[HS.out.2] at this;rw[HS.out.2]; exact this
  have k3:W0 ((w2.setCell ⟨w.heap.size+1,0,none⟩ (.slice ao1 n q1)).setCell ⟨w.heap.size+1,1,none⟩ (.slice ao2 m q2)) w.heap.size (.slice ao1 n q1) C.1:=World.ownsRow.mono ((Zo _ (w.heap.size+1) 1 _).row ((Zo w2 (w.heap.size+1) 0 (.slice ao1 n q1)).row k1 (fun q hq=>by omega)) (fun q hq=>by omega)) (by omega)
  have k4:Xv ((w2.setCell ⟨w.heap.size+1,0,none⟩ (.slice ao1 n q1)).setCell ⟨w.heap.size+1,1,none⟩ (.slice ao2 m q2)) w.heap.size (.slice ao2 m q2) C.2:=World.ownsRow.mono ((Zo _ (w.heap.size+1) 1 _).row ((Zo w2 (w.heap.size+1) 0 (.slice ao1 n q1)).row k2 (fun q hq=>by omega)) (fun q hq=>by omega)) (by omega)
  have b4:Below w.heap.size w w2:=HW.out.2.1.trans ((HX.out.2.mono HW.out.2.1.size).trans (HY.out.2.mono (by omega)))
  have b5:=(b4.setCell (p:=⟨w.heap.size+1,0,none⟩) (by show w.heap.size<=w.heap.size+1; omega) (.slice ao1 n q1)).setCell (p:=⟨w.heap.size+1,1,none⟩) (by show w.heap.size<=w.heap.size+1; omega) (.slice ao2 m q2)
  have K:=hid (And.intro k3 (And.intro k4 b5));clear k1 k2 k3 k4 b4 b5 HX HY hsz cS2 cS3 cS4 fS;go_wp2_with fail
  refine bodyPost_ret (v:=.agg #[.slice ao1 n q1,.slice ao2 m q2]) (by simp[results,Tryz.results63,go_sem,y0,y1]) rfl ?_
  exact⟨ao1,q1,ao2,q2,rfl,K.out.1,K.out.2.1,K.out.2.2⟩
end Go.Proofs.YtdnacpbgodooaaaGreatDoor
namespace Go.Proofs.YtdnacpbgodooaaaGreatDoor
open Go.RowKit Go.Lib
def YG (E:List En) (x:En) (k:Nat):List En:=if grt (E.take k) x=true then insE (E.take k) x else E.take k
theorem take_end (E:List En) (k:Nat) (h:k<E.length):E.take (k+1)=E.take k++[en E k]:=by rw[YS E k h,<- List.take_append_getElem h]
theorem Z4F (E:List En) (x:En) (k:Nat) (h:k<E.length) (hd:grt (E.take k) x=true):YG E x (k+1)=YG E x k++[en E k]∧grt (E.take (k+1)) x=true:=by
 have e:grt (E.take (k+1)) x=true:=by rw[take_end E k h,grt_snoc,hd]; rfl
 refine⟨?_,e⟩
 unfold YG;rw[if_pos e,if_pos hd,take_end E k h,Z7X _ _ _ hd]
theorem Z6o (E:List En) (x:En) (k:Nat) (h:k<E.length) (hd:grt (E.take k) x=false) (hy:ZE (en E k).s x.s=true):YG E x (k+1)=YG E x k++[en E k]∧grt (E.take (k+1)) x=false:=by
 have e:grt (E.take (k+1)) x=false:=by rw[take_end E k h,grt_snoc,hd,hy]; rfl
 refine⟨?_,e⟩
 unfold YG;rw[if_neg (by rw[e]; decide),if_neg (by rw[hd]; decide),take_end E k h]
theorem Z4E (E:List En) (x:En) (k:Nat) (h:k<E.length) (hd:grt (E.take k) x=false) (hy:ZE (en E k).s x.s=false):YG E x (k+1)=YG E x k++[x]++[en E k]∧grt (E.take (k+1)) x=true:=by
 have e:grt (E.take (k+1)) x=true:=by rw[take_end E k h,grt_snoc,hd,hy]; rfl
 refine⟨?_,e⟩
 unfold YG;rw[if_pos e,if_neg (by rw[hd]; decide),take_end E k h,Z6A _ _ _ hd hy]
theorem Z6q (E:List En) (x:En):YG E x E.length=if grt E x=true then insE E x else E:=by unfold YG; rw[List.take_length]
theorem Z6p (E:List En) (x:En) (k:Nat):(YG E x k).length<=E.length+1:=by
 unfold YG
 split
 ·rw[Z7W,List.length_take]; omega
 ·rw[List.length_take]; omega
theorem Z6H (E:List En) (s:ByteArray) (k:Nat) (h:k<E.length):hasE (E.take (k+1)) s=(hasE (E.take k) s||((en E k).s.toList==s.toList)):=by
 rw[take_end E k h]; simp[hasE]
theorem Z18 (E:List En) (s:ByteArray) (k:Nat) (h:hasE (E.take k) s=true):hasE E s=true:=by
 obtain⟨y,hy,e⟩:=(hasE_iff _ _).1 h;exact (hasE_iff _ _).2 ⟨y,List.mem_of_mem_take hy,e⟩
theorem Z7V (E:List En) (F:List Fi) (b k:Nat):insAll E (ZK F b (k+1))=insE (insAll E (ZK F b k)) (Z1a F b k):=by rw[ZK,UO]
theorem Ve (C:Ct) (F:List Fi) (hc:catChk C=0) (hf:filChk F=0) (j:Nat) (hj:j<=F.length):∀ i,i<(insAll C.2 (ZK F C.1.length j)).length->(en (insAll C.2 (ZK F C.1.length j)) i).s.size<=8:=by
 obtain⟨t1,t2,t3,t4⟩:=Xg C hc;obtain⟨f1,f2,f3,f4⟩:=Xx F hf;intro i hi;rw[YS _ i hi];have hx:=(ZQ C.2 (ZK F C.1.length j)).mem_iff.1 (List.getElem_mem hi)
 rcases List.mem_append.1 hx with q | q
 ·obtain⟨l,hl,e⟩:=List.getElem_of_mem q
  have:=(Zs _ ((ZO _ _).1 (WJ C.2 _ _ t4 l hl)).1).2
  rw[YS C.2 l hl] at this;rw[<- e]; exact this
 ·obtain⟨l,hl,e⟩:=Wf F _ _ _ q
  rw[e];exact (Zs _ (f4 l (by omega)).1).2
theorem XG (C:Ct) (F:List Fi) (j:Nat):(insAll C.2 (ZK F C.1.length j)).length=C.2.length+j:=by rw[insAll_len,entsN_len]
section
variable {w w':World}
theorem Z0I {base base' e e' s s':Nat} {v v':Value} {n n':Nat} {xs xs':List Value} (h:w.ownsRow base e s v n xs) (h':w.ownsRow base' e' s' v' n' xs') (he:e≠e'):v.ownBlock=none∨v.ownBlock≠v'.ownBlock:=by
 rcases h.2 with ⟨rfl,_⟩ | ⟨g,cap,cur,rfl,_,hg,_⟩
 ·exact .inl rfl
 ·rcases h'.2 with ⟨rfl,_⟩ | ⟨g',cap',cur',rfl,_,hg',_⟩
  ·exact .inr (by simp[Value.ownBlock])
  ·refine .inr (fun e0=>?_)
   have:g=g':=by simpa[Value.ownBlock] using e0
   subst this;rw[hg] at hg';cases hg'
   exact he rfl
theorem Xj {base e s n p t:Nat} {v:Value} {xs V:List Value} (h:w.ownsRow base e s v n xs) (ho:Own w p t V) (he:e≠t):v.ownBlock=none∨v.ownBlock≠some p:=by
 rcases h.2 with ⟨rfl,_⟩ | ⟨g,cap,cur,rfl,_,hg,_⟩
 ·exact .inl rfl
 ·refine .inr (fun e0=>?_)
  have:g=p:=by simpa[Value.ownBlock] using e0
  subst this;obtain⟨R,hR⟩:=ho;rw[hR] at hg;cases hg
  exact he rfl
theorem JX (w:World) (p o:Nat) (v:Value):w.grownBy (w.setCell ⟨p,o,none⟩ v) (some p):=
 ⟨rfl,rfl,rfl,by simp[World.setCell],fun k _ hp=>Below.heap_setCell w ⟨p,o,none⟩ v k (fun e=>hp (by rw[e]))⟩
theorem row_to {base e s n:Nat} {v:Value} {xs:List Value} (h:w.ownsRow base e s v n xs) (g:Below w.heap.size w w'):w'.ownsRow base e s v n xs:=(chg_below (fun _=>False) g).row h (fun _ _ q=>q)
structure AdI (wc:World) (p8:Nat) (vK vE:Value) (K:List Bk) (E:List En) (w:World):Prop where
 box:Own w p8 83 [vK,vE]
 K:W0 w wc.heap.size vK K
 E:Xv w wc.heap.size vE E
 below:Below wc.heap.size wc w
 lo:wc.heap.size<=p8
variable {wc:World} {p8:Nat} {vK vE:Value} {K:List Bk} {E:List En}
theorem AdI.to (h:AdI wc p8 vK vE K E w) (g:Below w.heap.size w w'):AdI wc p8 vK vE K E w':=⟨h.box.below' g,row_to h.K g,row_to h.E g,h.below.trans (g.mono h.below.size),h.lo⟩
structure AdJ (wc:World) (p8:Nat) (vK vE:Value) (K:List Bk) (E:List En) (p11:Nat) (x:En) (v:Value) (N:List En) (w:World):Prop where
 i:AdI wc p8 vK vE K E w
 ebx:Own w p11 95 (entC x)
 N:Xv w (p11+1) v N
 bK:∀ g,vK.ownBlock=some g->g<p11
 bE:∀ g,vE.ownBlock=some g->g<p11
 b8:p8<p11
variable {p11:Nat} {x:En} {v v':Value} {N N':List En}
theorem AdJ.to (h:AdJ wc p8 vK vE K E p11 x v N w) (g:Below w.heap.size w w'):AdJ wc p8 vK vE K E p11 x v N w':=⟨h.i.to g,h.ebx.below' g,row_to h.N g,h.bK,h.bE,h.b8⟩
theorem AdJ.size (h:AdJ wc p8 vK vE K E p11 x v N w):p11+1<=w.heap.size:=h.ebx.lt
theorem AdI.start (h:AdI wc p8 vK vE K E w) (x:En) (hw:Below w.heap.size w w') (ho:Own w' w.heap.size 95 (entC x)):AdJ wc p8 vK vE K E w.heap.size x (.slice none 0 0) [] w':=
 ⟨h.to hw,ho,ownsE_nil _ _,fun g e=>(World.ownsRow.lt h.K g e).2,fun g e=>(World.ownsRow.lt h.E g e).2,h.box.lt⟩
theorem AdJ.app (h:AdJ wc p8 vK vE K E p11 x v N w) (ho:Xv w' (p11+1) v' N') (g:w.grownBy w' v.ownBlock):AdJ wc p8 vK vE K E p11 x v' N' w':=by
 have lo:∀ q,v.ownBlock=some q->p11+1<=q:=fun q e=>(World.ownsRow.lt h.N q e).1
 have c:=Yk g;refine⟨⟨c.own h.i.box (fun e=>by have:=lo p8 e.symm; have:=h.b8; omega),h.i.K.kept g ?_,h.i.E.kept g ?_,h.i.below.grown g h.i.below.size (fun q e=>by have:=lo q e; have:=h.i.lo; have:=h.b8; omega),h.i.lo⟩,c.own h.ebx (fun e=>by have:=lo p11 e.symm; omega),ho,h.bK,h.bE,h.b8⟩
 ·cases e:vK.ownBlock with
  | none=>exact .inl rfl
  | some q=>exact .inr (fun e2=>by have:=lo q e2.symm; have:=h.bK q e; omega)
 ·cases e:vE.ownBlock with
  | none=>exact .inl rfl
  | some q=>exact .inr (fun e2=>by have:=lo q e2.symm; have:=h.bE q e; omega)
theorem AdJ.put (h:AdJ wc p8 vK vE K E p11 x v N w):AdI wc p8 vK v K N (w.setCell ⟨p8,1,none⟩ v):=by
 have g:=JX w p8 1 v;exact⟨h.i.box.set (i:=1) (by simp) v,h.i.K.kept g (Xj h.i.K h.i.box (by decide)),(World.ownsRow.mono h.N (by have:=h.i.lo; have:=h.b8; omega)).kept g (Xj h.N h.i.box (by decide)),h.i.below.setCell (p:=⟨p8,1,none⟩) h.i.lo v,h.i.lo⟩
theorem AdI.block (h:AdI wc p8 vK vE K E w) {K':List Bk} (ho:W0 w' wc.heap.size v' K') (g:w.grownBy w' vK.ownBlock):Own w' p8 83 [vK,vE]∧AdI wc p8 v' vE K' E (w'.setCell ⟨p8,0,none⟩ v'):=by
 have c:=Yk g;have b1:Own w' p8 83 [vK,vE]:=c.own h.box (fun e=>by
  rcases Xj h.K h.box (by decide) with q | q
  ·rw[q] at e; cases e
  ·exact q e.symm)
 have g2:=JX w' p8 0 v';have e1:Xv w' wc.heap.size vE E:=h.E.kept g (Z0I h.E h.K (by decide))
 exact⟨b1,b1.set (i:=0) (by simp) v',ho.kept g2 (Xj ho b1 (by decide)),e1.kept g2 (Xj e1 b1 (by decide)),(h.below.grown g h.below.size (fun q e=>(World.ownsRow.lt h.K q e).1)).setCell (p:=⟨p8,0,none⟩) h.lo v',h.lo⟩
theorem AdI.cat {ko eo:Option Addr} {n c m d:Nat} (h:AdI wc p8 (.slice ko n c) (.slice eo m d) K E w) (hK:K.length<=1000) (hE:E.length<=1000) (hn:∀ i,i<E.length->(en E i).s.size<=8):ZW w ko n c eo m (K,E):=by
 obtain⟨_,k2,k3⟩:=Ub h.K (by unfold maxLen; omega)
 obtain⟨_,_,e3⟩:=YB h.E (by unfold maxLen; omega) (fun i hi=>by have:=hn i hi; unfold maxLen; omega)
 exact⟨k2,k3,e3⟩
end
end Go.Proofs.YtdnacpbgodooaaaGreatDoor
namespace Go.Proofs.YtdnacpbgodooaaaGreatDoor
open Go.RowKit Go.Lib
def filC (x:Fi):List Value:=[.string x.s,.string x.d]
def filV (F:List Fi):List Value:=F.flatMap filC
theorem Z03 (x:Fi) (F:List Fi):filV (x::F)=.string x.s::.string x.d::filV F:=rfl
theorem Z6O (F:List Fi):(filV F).length=F.length*2:=by
 induction F with
 | nil=>rfl
 | cons x F ih=>rw[Z03]; simp only[List.length_cons,ih]; omega
theorem Z84 (x:Fi) (F:List Fi) (i:Nat):fi (x::F) (i+1)=fi F i:=by simp[fi]
theorem Z83 (F:List Fi) (i:Nat) (h:i<F.length):(filV F)[i*2]?=some (.string (fi F i).s)∧(filV F)[i*2+1]?=some (.string (fi F i).d):=by
 induction F generalizing i with
 | nil=>simp at h
 | cons x F ih=>
  rw[Z03];cases i with
  | zero=>exact⟨rfl,rfl⟩
  | succ i=>
   rw[Z84,show (i+1)*2=i*2+1+1 by omega]
   simp only[List.getElem?_cons_succ]
   exact ih i (by simpa using h)
theorem Z6P (F:List Fi) (j:Nat) (v:Value) (h:(filV F)[j]?=some v):∃ i,i<F.length∧((j=i*2∧v=.string (fi F i).s)∨(j=i*2+1∧v=.string (fi F i).d)):=by
 have hj:j<F.length*2:=by
  rcases Nat.lt_or_ge j (F.length*2) with h1 | h1
  ·exact h1
  ·rw[List.getElem?_eq_none (by rw[Z6O]; exact h1)] at h; cases h
 obtain⟨a0,a1⟩:=Z83 F (j / 2) (by omega)
 refine⟨j / 2,by omega,?_⟩
 rcases Nat.mod_two_eq_zero_or_one j with e | e
 ·left
  have e2:j=j / 2*2:=by omega
  rw[<- e2,h] at a0;exact⟨e2,Option.some.inj a0⟩
 ·right
  have e2:j=j / 2*2+1:=by omega
  rw[<- e2,h] at a1;exact⟨e2,Option.some.inj a1⟩
theorem ZV.rows {w:World} {a:Option Addr} {n:Nat} {F:List Fi} (h:ZV w a n F):(a=none->n=0)∧∀ ad,a=some ad->∀ j u,(filV F)[j]?=some u->w.cell? (ad.add j)=some u:=by
 refine⟨fun e=>?_,fun ad e j u hj=>?_⟩
 ·rcases Nat.eq_zero_or_pos n with q | q
  ·exact q
  ·obtain⟨b,o,e',_⟩:=h.c 0 q
   rw[e] at e'; cases e'
 ·obtain⟨i,hi,q⟩:=Z6P F j u hj
  obtain⟨b,o,e',_,c0,c1⟩:=h.c i (by rw[h.sn]; exact hi)
  rw[e] at e';cases e'
  rw[Addr.add_lit]
  rcases q with ⟨rfl,rfl⟩ | ⟨rfl,rfl⟩
  ·exact c0
  ·rw[<- Nat.add_assoc]; exact c1
end Go.Proofs.YtdnacpbgodooaaaGreatDoor
namespace Go.Proofs.YtdnacpbgodooaaaGreatDoor
open Go.RowKit Go.Lib
section
variable {w0 w w':World} {first:Nat} {v v':Value} {F:List Fi}
end
end Go.Proofs.YtdnacpbgodooaaaGreatDoor
