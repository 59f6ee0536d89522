import Derived.Test.YtdnacpbgodooaaaGreatDoorFilB
import Derived.Test.YtdnacpbgodooaaaGreatDoorStraight
import Derived.Test.YtdnacpbgodooaaaGreatDoorCatEncs
import Derived.Test.YtdnacpbgodooaaaGreatDoorArcAX
import Derived.Test.YtdnacpbgodooaaaGreatDoorPressP
set_option maxHeartbeats 3200000
set_option maxRecDepth 4000
namespace Go.Proofs.YtdnacpbgodooaaaGreatDoor
open Go.RowKit Go.Lib
theorem Q0 {ops:Array Oper} {o:Oper} {a:Act} {w:World} {K:Act->World->Prop} {Q:Exit->Act->World->Prop} {Z:Prop}
  (hg:o.guard=none) (sl x:Operand) (hop:o.op=Op.call { callee:=Callee.builtin Builtin.append,args:=#[sl,x],argTypes:=#[81,81] })
  (base:Nat) (v:Value) (L:List En) (hs:a.eval sl=v) (hown:Xv w base v L) (ad:Addr) (c:Nat) (b:En) (hx:a.eval x=.slice (some ad) 1 c) (hnews:∀ j u,(entV [b])[j]?=some u->w.cell? (ad.add j)=some u)
  (hbd:L.length<=100000) (hbase:base<=w.heap.size)
  (hK:∀ g m cap w',Hid (m=(L++[b]).length)->base<=g->Xv w' base (.slice (some ⟨g,0,none⟩) m cap) (L++[b])->w.grownBy w' v.ownBlock->K (a.put o.dst (.slice (some ⟨g,0,none⟩) m cap)) w'):
  if Region.wanted o (yielded ops a.tmps)=true then Oper.wp Tryz.prog o a w K Q else Z:=by
 obtain⟨i0,hi,hz0,hz1,hz2⟩:=info_parts Vf;have hw:Region.wanted o (yielded ops a.tmps)=true:=by simp[Region.wanted,hg]
 rw[if_pos hw];obtain⟨v',w',hrun,r1,r2,_⟩:=run_append_own (P:=Tryz.prog) w base 81 o.type 95 i0 _ 4 40 Tryz.underlying81 hi hz0 hz1 hz2 rfl (by decide) v L.length (entV L) hown ad 1 c (entV [b]) rfl hnews (by rw[show entV [b]=entC b by simp[entV]]; exact WQ b) (by unfold maxLen; omega) (by omega) hbase
 unfold Oper.wp;simp[execOp,hop,resolve,invoke,builtin,hs,hx,hrun,Result.andThen]
 have r1':w'.ownsRow base 95 4 v' (L++[b]).length (entV (L++[b])):=by rw[QB,List.length_append]; exact r1
 obtain⟨g,cap,rfl,hg⟩:=Zb r1' (by simp)
 exact hK g _ cap w' rfl hg r1' r2
theorem ent_grown {w w':World} {base:Nat} {v:Value} {L:List En} (h:Xv w base v L) (g:w.grownBy w' v.ownBlock) (k:Nat) (cs:Array Value) (t:TypeId) (fz:Nat × Nat) (ht:t≠95) (hk:w.heap[k]?=some (.cells cs t fz)):w'.heap[k]?=some (.cells cs t fz):=by
 rw[g.block k (lt_of_block hk)]
 ·exact hk
 ·intro e
  rcases h.2 with ⟨h0,_⟩ | ⟨q,cap,cur,h0,_,hh,_⟩
  ·rw[h0] at e; cases e
  ·rw[h0] at e
   cases e
   rw[hh] at hk;cases hk
   exact ht rfl
theorem Own.entGrown {w w':World} {base p:Nat} {v:Value} {L:List En} {t:TypeId} {V:List Value} (ho:Own w p t V) (h:Xv w base v L) (g:w.grownBy w' v.ownBlock) (ht:t≠95):Own w' p t V:=by
 obtain⟨R,ho⟩:=ho;exact⟨R,ent_grown h g _ _ _ _ ht ho⟩
structure TogI (w0:World) (F:List Fi) (B k:Nat) (v:Value) (w:World):Prop where
 bld:BldK (w0.heap.size+1) (datN F k) w
 box:Own w (w0.heap.size+1+1) 81 [v]
 blk:Own w w0.heap.size 3 [.int .i64 B]
 row:Xv w (w0.heap.size+1+1+1) v (ZK F B k)
 below:Below w0.heap.size w0 w
section
variable {w0 w w':World} {F:List Fi} {B k:Nat} {v:Value}
theorem TogI.size (h:TogI w0 F B k v w):w0.heap.size+1+1+1<=w.heap.size:=h.box.lt
theorem TogI.to (h:TogI w0 F B k v w) (g:Below w.heap.size w w'):TogI w0 F B k v w':=
 ⟨h.bld.below g,h.box.below' g,h.blk.below' g,(chg_below (fun _=>False) g).row h.row (fun _ _ q=>q),h.below.trans (g.mono h.below.size)⟩
structure TogJ (w0:World) (F:List Fi) (B k:Nat) (v:Value) (w:World):Prop where
 bld:BldK (w0.heap.size+1) (datN F k) w
 box:Own w (w0.heap.size+1+1) 81 [v]
 blk:Own w w0.heap.size 3 [.int .i64 B]
 row:Xv w (w0.heap.size+1+1+1) v (ZK F B (k+1))
 below:Below w0.heap.size w0 w
theorem TogI.app (h:TogI w0 F B k v w) {v':Value} (ho:Xv w' (w0.heap.size+1+1+1) v' (ZK F B k++[Z1a F B k])) (g:w.grownBy w' v.ownBlock):
  Own w' (w0.heap.size+1+1) 81 [v]∧TogJ w0 F B k v' (w'.setCell ⟨w0.heap.size+1+1,0,none⟩ v'):=by
 have b1:=h.box.entGrown h.row g (by decide)
 have b2:=h.blk.entGrown h.row g (by decide)
 have b3:BldK (w0.heap.size+1) (datN F k) w':=h.bld.keep fun q cs t fz ht hq=>ent_grown h.row g q cs t fz (by rcases ht with rfl | rfl <;> decide) hq
 have b4:Below w0.heap.size w0 w':=h.below.grown g h.below.size (fun q hq=>by have:=(World.ownsRow.lt h.row q hq).1; omega)
 refine⟨b1,?_,b1.set (i:=0) (by simp) v',b2.other (by show w0.heap.size≠w0.heap.size+1+1; omega) _,?_,b4.setCell (by show w0.heap.size<=w0.heap.size+1+1; omega) _⟩
 ·obtain⟨R,hR⟩:=b1
  exact b3.keep fun q cs t fz ht hq=>by
   rw[Below.heap_setCell _ _ _ _ (fun e=>by have e':q=w0.heap.size+1+1:=e; subst e'; rw[hR] at hq; cases hq; rcases ht with h | h <;> exact absurd h (by decide))]
   exact hq
 ·exact (Zo w' (w0.heap.size+1+1) 0 v').row ho (fun q hq=>by omega)
theorem TogI.mid (h:TogI w0 F B k v w) (g:w.grownBy w' v.ownBlock):Own w' w0.heap.size 3 [.int .i64 B]∧BldK (w0.heap.size+1) (datN F k) w':=
 ⟨h.blk.entGrown h.row g (by decide),h.bld.keep fun q cs t fz ht hq=>ent_grown h.row g q cs t fz (by rcases ht with rfl | rfl <;> decide) hq⟩
theorem TogJ.to (h:TogJ w0 F B k v w) (g:Below w.heap.size w w'):TogJ w0 F B k v w':=
 ⟨h.bld.below g,h.box.below' g,h.blk.below' g,(chg_below (fun _=>False) g).row h.row (fun _ _ q=>q),h.below.trans (g.mono h.below.size)⟩
theorem TogJ.write (h:TogJ w0 F B k v w) (hb:BldK (w0.heap.size+1) (datN F k++(fi F k).d.data.toList) w') (g:Below (w0.heap.size+1) w w') (q:Lib.OthersKept 5 (some (w0.heap.size+1)) w w'):TogI w0 F B (k+1) v w':=
 ⟨hb,h.box.kept q (by decide) (by omega),h.blk.kept q (by decide) (by omega),Z4f h.row q (by decide) (by omega),h.below.trans (g.mono (by omega))⟩
end
theorem Z2S (a:Option Addr) (n c:Nat) (F:List Fi) (B k:Nat) (v:Value) (w0 w:World) (I:TogI w0 F B k v w) (hs:sumF F k<=100000) (hd:(fi F k).d.size<=100000) (hk:k<=1000):
  Calls Tryz.prog 87 #[.slice a n c,.agg #[.string (fi F k).s,.string (fi F k).d],.pointer (some ⟨w0.heap.size+1+1,0,none⟩),.pointer (some ⟨w0.heap.size,0,none⟩),.pointer (some ⟨w0.heap.size+1,0,none⟩)] w fun e w'=>e=.returned (.int .i64 0)∧∃ v',TogI w0 F B (k+1) v' w':=by
 obtain⟨W,hW⟩:∃ W,W=w.alloc (.cells #[.string (fi F k).s,.string (fi F k).d] 113):=⟨_,rfl⟩;have hB:Below w.heap.size w W:=by rw[hW]; go_grown
 have k1:Own W w.heap.size 113 [.string (fi F k).s,.string (fi F k).d]:=by rw[hW]; exact Own.made w _ _
 have HI:=hid (I.to hB);have hfq:w0.heap.size+1+1<w.heap.size:=I.box.lt;have HN:Hid ((ZK F B k).length<=100000):=by show _<=_; rw[entsN_len]; omega
 have HE:Hid ((⟨(fi F k).s,B,sumF F k,(fi F k).d.size⟩:En)=Z1a F B k):=rfl;have HL:Hid (datN F k=datN F k∧(datN F k).length=sumF F k):=⟨rfl,datN_len F k⟩;have HK1:=hid k1;obtain⟨d,hdd⟩:∃ d,(fi F k).d=d:=⟨_,rfl⟩;obtain⟨s,hss⟩:∃ s,(fi F k).s=s:=⟨_,rfl⟩;have HD:=hid hdd;rw[hdd] at k1 HE hd hW;rw[hss] at k1 HE hW;rw[hss,hdd];clear hdd hss hB I;have HK1:=hid k1;have s0:=k1.cell (i:=0) rfl;have s1:=k1.cell (i:=1) rfl;have b0:=HI.out.blk.cell (i:=0) rfl;have e0:=HI.out.box.cell (i:=0) rfl;have h0:=HI.out.bld;have hl0:w.heap.size<W.heap.size:=k1.lt;have hl1:w0.heap.size<W.heap.size:=HI.out.blk.lt;have hl2:w0.heap.size+1+1<W.heap.size:=HI.out.box.lt;have JR:=hid (HI.out.to (show Below W.heap.size W (W.drew.alloc (.cells #[.string s,.int .i64 B,.int .i64 (sumF F k),.int .i64 d.size] 95)) by go_grown))
 have KR:=hid (k1.below' (show Below W.heap.size W (W.drew.alloc (.cells #[.string s,.int .i64 B,.int .i64 (sumF F k),.int .i64 d.size] 95)) by go_grown))
 have NB:=hid (Wc W.drew ⟨s,B,sumF F k,d.size⟩ 95);clear k1;go_enter Tryz.func87,Tryz.ntmps87
 go_upto_region 1 with fail
 rw[<- hW];clear hW;generalize w.heap.size=pf at s0 s1 hl0 hfq HK1 KR ⊢;refine Zq (fun w'=>w'.cell? ⟨pf,0,none⟩=some (.string s)∧w'.cell? ⟨pf,1,none⟩=some (.string d)∧w'.cell? ⟨w0.heap.size,0,none⟩=some (.int .i64 B)∧BldK (w0.heap.size+1) (datN F k) w') (fun w'=>w'.cell? ⟨w0.heap.size+1+1,0,none⟩=some v) 10 (by kernel_rfl) ⟨s0,s1,b0,h0.below ((Below.refl _ W).drew)⟩ e0 (fun hT=>?_)
 refine Ul (i:=0) (v:=?v0) rfl (by kernel_rfl) (by kernel_rfl) (by kernel_rfl) (fun _ _ _ h=>h) (by rfl) ?hy0 hT ?rest0
 case hy0=>(intro w hSw; (try dsimp only at hSw); go_simp; (first | done | with_reducible rfl))
 clear hT; intro hT; try simp only[Act.put,List.setIfInBounds_toArray,List.set]
 refine tkn (i:=1) rfl (by kernel_rfl) (fun _ _ _ h=>h) (by rfl) (by intro w h; (try dsimp only at h); go_simp; first | done | with_reducible rfl) hT ?_
 clear hT; intro hT; try simp only[Act.put,List.setIfInBounds_toArray,List.set]
 refine tkn (i:=2) rfl (by kernel_rfl) (fun _ _ _ h=>h) (by rfl) (by intro w h; (try dsimp only at h); go_simp; first | done | with_reducible rfl) hT ?_
 clear hT; intro hT; try simp only[Act.put,List.setIfInBounds_toArray,List.set]
 refine tkn (i:=3) rfl (by kernel_rfl) (fun _ _ _ h=>h) (by rfl) (by intro w h; (try dsimp only at h); go_simp; first | done | with_reducible rfl) hT ?_
 clear hT; intro hT; try simp only[Act.put,List.setIfInBounds_toArray,List.set]
 refine QV (i:=4) (v:=.int .i64 (sumF F k)) (f:=88) (args:=#[.pointer (some ⟨w0.heap.size+1,0,none⟩)]) rfl (by kernel_rfl) (by kernel_rfl) (by kernel_rfl) (fun _ _ _ h=>h) (by rfl) ?hy4 ?hc4 hT ?rest4
 case hy4=>(intro w hSw; (try dsimp only at hSw); go_simp; (first | done | with_reducible rfl))
 case hc4=>(intro w hSw; have:=Z5B _ _ w hSw.2.2.2; rw[datN_len] at this; exact this)
 clear hT; intro hT; try simp only[Act.put,List.setIfInBounds_toArray,List.set]
 refine tkn (i:=5) rfl (by kernel_rfl) (fun _ _ _ h=>h) (by rfl) (by intro w h; (try dsimp only at h); go_simp; first | done | with_reducible rfl) hT ?_
 clear hT; intro hT; try simp only[Act.put,List.setIfInBounds_toArray,List.set]
 refine tkn (i:=6) rfl (by kernel_rfl) (fun _ _ _ h=>h) (by rfl) (by intro w h; (try dsimp only at h); go_simp; first | done | with_reducible rfl) hT ?_
 clear hT; intro hT; try simp only[Act.put,List.setIfInBounds_toArray,List.set]
 refine tkn (i:=7) rfl (by kernel_rfl) (fun _ _ _ h=>h) (by rfl) (by intro w h; (try dsimp only at h); go_simp; first | done | with_reducible rfl) hT ?_
 clear hT; intro hT; try simp only[Act.put,List.setIfInBounds_toArray,List.set]
 refine tkn (i:=8) rfl (by kernel_rfl) (fun _ _ _ h=>h) (by rfl) (by intro w h; (try dsimp only at h); go_simp; first | done | with_reducible rfl) hT ?_
 clear hT; intro hT; try simp only[Act.put,List.setIfInBounds_toArray,List.set]
 refine Z0 (i:=9) rfl (by kernel_rfl) (fun K hK=>?_)
 go_simp;refine hK.out _ _ ?hS9 ?rest9
 case hS9=>exact⟨⟨KR.out.cell (i:=0) rfl,KR.out.cell (i:=1) rfl,JR.out.blk.cell (i:=0) rfl,JR.out.bld⟩,fun _=>JR.out.box.cell (i:=0) rfl⟩
 clear hT hK K; intro hT; try simp only[Act.put,List.setIfInBounds_toArray,List.set]
 refine Z0 (i:=10) rfl (by kernel_rfl) (fun K hK=>?_)
 (refine Q0 (by rfl) _ _ (by rfl) (w0.heap.size+1+1+1) _ (ZK F B k) (by rfl) JR.out.row ⟨W.heap.size,0,none⟩ 1 ⟨s,B,sumF F k,d.size⟩ (by rfl) NB.out HN.out JR.out.size ?_; intro g8 m8 cap8 w8 hm8 hg8 hown8 hgrow8; (rw[HE.out] at hown8); (have A8:=JR.out.app hown8 hgrow8); (have M8:=JR.out.mid hgrow8); (have X8:=KR.out.entGrown JR.out.row hgrow8 (by decide)); (have t0:=A8.1.cell (i:=0) rfl); (have t1:=A8.1.free 0); (have J8:=hid A8.2); (have X9:=hid (X8.other (p:=⟨w0.heap.size+1+1,0,none⟩) (by show pf≠w0.heap.size+1+1; omega) (.slice (some ⟨g8,0,none⟩) m8 cap8))))
 refine hK.out _ _ ?hS10 ?rest10
 case hS10=>exact⟨⟨X8.cell (i:=0) rfl,X8.cell (i:=1) rfl,M8.1.cell (i:=0) rfl,M8.2⟩,fun h=>(by cases h)⟩
 clear hT hK K hown8 hgrow8 A8 M8 X8; intro hT; try simp only[Act.put,List.setIfInBounds_toArray,List.set]
 refine Z0 (i:=11) rfl (by kernel_rfl) (fun K hK=>?_)
 go_simp;refine hK.out _ _ ?hS11 ?rest11
 case hS11=>exact⟨⟨X9.out.cell (i:=0) rfl,X9.out.cell (i:=1) rfl,J8.out.blk.cell (i:=0) rfl,J8.out.bld⟩,fun h=>(by cases h)⟩
 clear hT hK K; intro hT; try simp only[Act.put,List.setIfInBounds_toArray,List.set]
 refine Zw (by kernel_rfl) ?_ _
 obtain⟨W9,hW9⟩:∃ W9,W9=w8.setCell ⟨w0.heap.size+1+1,0,none⟩ (.slice (some ⟨g8,0,none⟩) m8 cap8):=⟨_,rfl⟩;rw[<- hW9] at J8 X9 ⊢;clear hW9 s0 s1 b0 e0 h0 t0 t1 JR KR NB;have s1:=X9.out.cell (i:=1) rfl;have CW:=hid (Z1r (w0.heap.size+1) (datN F k) d W9 J8.out.bld (by rw[datN_len]; omega))
 go_wp2_with fail
 refine CW.out.mono ?_
 rintro _ w9 ⟨rfl,q1,q2,q3⟩;have FIN:=hid (J8.out.write (by rw[HD.out]; exact q1) q2 q3)
 clear q1 q2 q3 s1 CW;go_wp2
 go_ret
 exact⟨rfl,_,FIN.out⟩
theorem Z2J (w0:World) (F:List Fi) (B:Nat):TogI w0 F B 0 (.slice none 0 0) (((w0.alloc (.cells #[.int .i64 B] 3)).alloc (.cells #[.pointer none,.slice none 0 0] 132)).alloc (.cells #[.slice none 0 0] 81)):=by
 have k0:=Own.made w0 3 [.int .i64 B];have k1:=Z76 (w0.alloc (.cells #[.int .i64 B] 3));have k2:=Own.made ((w0.alloc (.cells #[.int .i64 B] 3)).alloc (.cells #[.pointer none,.slice none 0 0] 132)) 81 [.slice none 0 0];rw[show (w0.alloc (.cells #[.int .i64 B] 3)).heap.size=w0.heap.size+1 by simp] at k1
 rw[show ((w0.alloc (.cells #[.int .i64 B] 3)).alloc (.cells #[.pointer none,.slice none 0 0] 132)).heap.size=w0.heap.size+1+1 by simp] at k2
 exact⟨k1.below (by go_grown),k2,(k0.alloc _).alloc _,ownsE_nil _ _,by go_grown⟩
def OutTg (w:World) (F:List Fi) (B n:Nat) (e:Ending) (w':World):Prop:=∃ ao m cap,e=.returned (.tuple #[.string (str (datN F n)),.slice ao m cap])∧YT w' ao m (ZK F B n)∧Below w.heap.size w w'
theorem Z86 (F:List Fi) (B k:Nat) (h:∀ j,j<k->(fi F j).s.size<=maxLen):∀ i,i<(ZK F B k).length->(en (ZK F B k) i).s.size<=maxLen:=by
 intro i hi;rw[YS _ i hi];obtain⟨j,hj,e⟩:=Wf F B k _ (List.getElem_mem hi);rw[e];exact h j hj
theorem Jd (a:Option Addr) (n c:Nat) (F:List Fi) (B:Nat) (w:World) (H:ZV w a n F) (hc:n<=c) (hF:filChk F=0):
  Calls Tryz.prog 44 #[.slice a n c,.int .i64 B] w fun e w'=>OutTg w F B n e w':=by
 obtain⟨f1,f2,f3,f4⟩:=Xx F hF;have hsn:=H.sn;obtain⟨W,hW⟩:∃ W,W=((w.alloc (.cells #[.int .i64 B] 3)).alloc (.cells #[.pointer none,.slice none 0 0] 132)).alloc (.cells #[.slice none 0 0] 81):=⟨_,rfl⟩;have I0:TogI w F B 0 (.slice none 0 0) W:=by rw[hW]; exact Z2J w F B
 have CL:=Z00 a n c F 87 #[.pointer (some ⟨w.heap.size+1+1,0,none⟩),.pointer (some ⟨w.heap.size,0,none⟩),.pointer (some ⟨w.heap.size+1,0,none⟩)] W (fun k wx=>ZV w a n F∧∃ v,TogI w F B k v wx) (fun _ _=>False) hc (enters_of Tryz.func87 (by kernel_rfl) rfl)
  (fun k wx h=>by obtain⟨h1,v,h2⟩:=h; exact h1.below h2.below) (fun k wx w' h g=>by obtain⟨h1,v,h2⟩:=h; exact⟨h1,v,h2.to g⟩)
  (fun k wx hk h=>by
   obtain⟨h1,v,h2⟩:=h;have q1:=Ut F k F.length (by omega)
   have q2:=(f4 k (by omega)).2.1
   refine (Z2S a k c F B k v w wx h2 (by omega) (by omega) (by omega)).mono ?_
   rintro e w' ⟨rfl,v',h3⟩;exact⟨0,rfl,fun _=>⟨h1,v',h3⟩,fun q=>absurd rfl q⟩) ⟨H,_,I0⟩
 have HL:=hid CL;have HW:=hid hW;rw[hW] at HL;have HM:=hid (Z86 F B n (fun j hj=>(H.nm j hj).1))
 have hn10:n<=10:=by omega
 clear CL hW I0 H hsn f1 f2 f3 f4;go_enter Tryz.func44,Tryz.ntmps44
 go_wp2_with fail
 refine HL.out.mono ?_
 rintro _ w5 ⟨x,rfl,k1,k2⟩
 by_cases hx:x=0
 ·obtain⟨_,v,I5⟩:=k1 hx
  clear k1 k2 HL;have e0:=I5.box.cell (i:=0) rfl;have I6:=hid I5;have CS:=hid (Z0d (w.heap.size+1) (datN F n) w5.drew (I5.to ((Below.refl _ w5).drew)).bld);have hlt:=I5.box.lt;clear I5;obtain⟨ao,m,cap,rfl⟩:∃ ao m cap,v=.slice ao m cap:=by
   rcases I6.out.row.2 with ⟨h0,_⟩ | ⟨g,cap,cur,h0,_⟩
   ·exact⟨_,_,_,h0⟩
   ·exact⟨_,_,_,h0⟩
  have HO:=hid (fun w6 (q1:Below (w.heap.size+1) w5.drew w6) (q2:Lib.OthersKept 5 (some (w.heap.size+1)) w5.drew w6)=>show OutTg w F B n (.returned (.tuple #[.string (str (datN F n)),.slice ao m cap])) w6 from by
   have r:=Z4f (show Xv w5.drew (w.heap.size+1+1+1) (.slice ao m cap) (ZK F B n) from I6.out.row) q2 (by decide) (by omega)
   obtain⟨_,_,r3⟩:=YB r (by rw[entsN_len]; unfold maxLen; omega) HM.out
   exact⟨ao,m,cap,rfl,r3,(I6.out.below.drew).trans (q1.mono (by omega))⟩)
  generalize str (datN F n)=Z at CS HO;go_wp2_with fail
  go_region_with (go_at_call 90; refine CS.out.mono ?_; rintro _ w6 ⟨rfl,q1,q2⟩; (have t0:=((I6.out.box.drew).kept q2 (by decide) (by omega)).cell (i:=0) rfl); (have K6:=hid (HO.out w6 q1 q2)); clear q1 q2)
  all_goals go_wp2
  all_goals go_ret2
  all_goals exact K6.out
 ·exact absurd (k2 hx) id
end Go.Proofs.YtdnacpbgodooaaaGreatDoor
namespace Go.Proofs.YtdnacpbgodooaaaGreatDoor
open Go.RowKit Go.Lib
theorem Z57 (E:List En) (s:ByteArray) (k:Nat) (hk:k<=E.length):(XC E s k).isSome=hasE (E.take k) s:=by
 induction k with
 | zero=>rfl
 | succ k ih=>
  rw[en_take E k (by omega),hasE_app,<- ih (by omega),XC]
  cases hf:XC E s k with
  | some i=>simp
  | none=>simp only[Option.isSome_none,Bool.false_or]; cases he:((en E k).s.toList==s.toList) <;> simp[hasE,he]
theorem Z6M (C:Ct) (h:catChk C=0) (s:ByteArray):((ZD C s).2==0)=hasE C.2 s:=by
 have:=Z57 C.2 s C.2.length (Nat.le_refl _)
 rw[List.take_length] at this;rw[ZD,if_pos h,<- this];cases XC C.2 s C.2.length <;> rfl
theorem Z7t (C:Ct) (h:catChk C=0) (F:List Fi) (k:Nat):anyF F (fun x=>(ZD C x.s).2==0) k=takN C F k:=by
 induction k with
 | zero=>rfl
 | succ k ih=>rw[anyF,takN,ih,Z6M C h]
theorem Jo (x:Fi) (q:Nat) (a:Option Addr) (n c:Nat) (a':Option Addr) (m c':Nat) (C:Ct) (w:World) (H:ZW w a n c a' m C) (hq:Own w q 83 [.slice a n c,.slice a' m c']):
  Calls Tryz.prog 86 #[.agg #[.string x.s,.string x.d],.pointer (some ⟨q,0,none⟩)] w fun e w'=>e=.returned (.bool ((ZD C x.s).2==0))∧Below w.heap.size w w':=by
 obtain⟨W,hW⟩:∃ W,W=w.alloc (.cells #[.string x.s,.string x.d] 113):=⟨_,rfl⟩;have hB:Below w.heap.size w W:=by rw[hW]; go_grown
 have c0:=(hq.below' hB).cell (i:=0) rfl;have c1:=(hq.below' hB).cell (i:=1) rfl;have k1:Own W w.heap.size 113 [.string x.s,.string x.d]:=by rw[hW]; exact Own.made w _ _
 have d0:=k1.cell (i:=0) rfl;have CF:=Z0b a n c a' m c' C x.s W (H.below hB);obtain⟨R,hR⟩:∃ R,ZD C x.s=R:=⟨_,rfl⟩;rw[hR] at CF ⊢;obtain⟨X,F⟩:=R;change Calls Tryz.prog _ _ W fun e w'=>e=.returned (.tuple #[.agg #[.string X.s,.int .i64 X.b,.int .i64 X.a,.int .i64 X.n],.int .i64 F])∧Below W.heap.size W w' at CF
 have H1:=hid CF;have HP:=hid hB;clear CF hR hB H hq k1;go_enter Tryz.func86,Tryz.ntmps86
 go_upto_region 1 with fail
 rw[<- hW];clear hW;go_wp2_with fail
 refine H1.out.mono ?_
 rintro _ w5 ⟨rfl,g5⟩;have G:=hid ((HP.out.trans (g5.mono HP.out.size)).alloc (HP.out.trans (g5.mono HP.out.size)).size (.cells #[.string X.s,.int .i64 X.b,.int .i64 X.a,.int .i64 X.n] 95));clear g5 c0 c1 d0 H1;go_wp2
 go_ret
 exact⟨rfl,G.out⟩
theorem Z3V (a:Option Addr) (n c:Nat) (a':Option Addr) (m c':Nat) (C:Ct) (b:Option Addr) (k d:Nat) (F:List Fi) (w:World) (H:ZW w a n c a' m C) (HF:ZV w b k F) (hc:catChk C=0):
  Calls Tryz.prog 43 #[.agg #[.slice a n c,.slice a' m c'],.slice b k d] w fun e w'=>e=.returned (.bool (takN C F k))∧Below w.heap.size w w':=by
 obtain⟨W,hW⟩:∃ W,W=w.alloc (.cells #[.slice a n c,.slice a' m c'] 83):=⟨_,rfl⟩;have hB:Below w.heap.size w W:=by rw[hW]; go_grown
 have k1:Own W w.heap.size 83 [.slice a n c,.slice a' m c']:=by rw[hW]; exact Own.made w _ _
 have CC:=Vk b k d F (fun x=>(ZD C x.s).2==0) 86 #[.pointer (some ⟨w.heap.size,0,none⟩)] W (HF.below hB) (enters_of Tryz.func86 (by kernel_rfl) rfl) (fun x wx _ g=>Jo x w.heap.size a n c a' m c' C wx ((H.below hB).below g) (k1.below' g))
 rw[Z7t C hc] at CC;generalize takN C F k=T at CC;rw[hW] at CC;have H1:=hid CC;have HP:=hid (And.intro hB hW);clear CC hB hW H HF k1;go_enter Tryz.func43,Tryz.ntmps43
 go_wp2_with fail
 refine H1.out.mono ?_
 rintro _ w5 ⟨rfl,g5⟩;rw[<- HP.out.2] at g5;go_wp2
 go_ret
 exact⟨rfl,HP.out.1.trans (g5.mono HP.out.1.size)⟩
end Go.Proofs.YtdnacpbgodooaaaGreatDoor
namespace Go.Proofs.YtdnacpbgodooaaaGreatDoor
open Go.RowKit Go.Lib
theorem Z0M (n:Nat):Lib.repeatL [0] n=List.replicate n 0:=by
 induction n with
 | zero=>rfl
 | succ n ih=>rw[Lib.repeatL,ih,List.replicate_succ]; rfl
theorem Z40 (c:Nat) (w:World) (hc:c<=100000):
  Calls Tryz.prog 99 #[.string ⟨#[0]⟩,.int .i64 c] w fun e w'=>e=.returned (.string (str (List.replicate c 0)))∧Below w.heap.size w w':=by
 have:=Tryz.strings_Repeat ⟨#[0]⟩ c w (by omega) (by show 1*c<=_; omega)
 rw[show (⟨#[0]⟩:ByteArray).data.toList=[0] from rfl,Z0M] at this;exact this
theorem cell_at {w w':World} {p:Addr} {v:Value} (g:Below w.heap.size w w') (h:w.cell? p=some v):w'.cell? p=some v:=(g.cell (YL h)).trans h
theorem Z6h {w w':World} {A:Ar} {a:Option Addr} {n:Nat} (h:(n=0∧A=[]∧a=none)∨∃ b hd,a=some ⟨b,0,none⟩∧w.heap.size<=b∧Z4 w' b 0 n hd A):Z5 w' a n A:=by
 rcases h with ⟨h1,h2,_⟩ | ⟨b,hd,h1,_,h2⟩
 ·exact .inl ⟨h1,h2⟩
 ·exact .inr ⟨b,0,hd,h1,h2.arr⟩
theorem Z41 (a:Option Addr) (n c:Nat) (A:Ar) (x:Option Addr) (d:Nat) (x':Option Addr) (m d':Nat) (L:List Bk) (E:List En) (q P:Nat) (s:ByteArray) (w:World) (H:Z5 w a n A) (HC:ZW w x (L.length+1) d x' m (L++[⟨q,P⟩],E)) (hL:L.length<=1000)
  (h1:(Zg A q s.data.toList).2=0) (h2:catChk (L++[⟨q,P⟩],E)=0) (h3:(Zg (Zg A q s.data.toList).1 0 (imgC (L++[⟨q,P⟩],E))).2=0):
  Calls Tryz.prog 48 #[.agg #[.slice a n c],.agg #[.slice x (L.length+1) d,.slice x' m d'],.string s] w (OutA w ((Zg (Zg A q s.data.toList).1 0 (imgC (L++[⟨q,P⟩],E))).1,0)):=by
 obtain⟨bb,oo,rfl,hbb,x0,x1⟩:=HC.B.c L.length (by omega)
 rw[show bk (L++[(⟨q,P⟩:Bk)]) L.length=⟨q,P⟩ from bk_end L _] at x0 x1;dsimp only at x0 x1;have hel:=QC _ h2;obtain⟨C,hC⟩:∃ C:Ct,C=(L++[(⟨q,P⟩:Bk)],E):=⟨_,rfl⟩;rw[<- hC] at HC h2 h3 hel ⊢;clear hC;obtain⟨K,hK⟩:∃ K,L.length=K:=⟨_,rfl⟩;rw[hK] at x0 x1 hL HC ⊢;obtain⟨W,hW⟩:∃ W,W=((w.alloc (.cells #[.slice a n c] 26)).alloc (.cells #[.slice (some ⟨bb,oo,none⟩) (K+1) d,.slice x' m d'] 83)).alloc (.cells #[.slice none 0 0] 26):=⟨_,rfl⟩;have hB:Below w.heap.size w W:=by rw[hW]; go_grown
 have k1:Own W w.heap.size 26 [.slice a n c]:=by rw[hW]; exact ((Own.made w 26 [.slice a n c]).alloc _).alloc _
 have k2:Own W (w.heap.size+1) 83 [.slice (some ⟨bb,oo,none⟩) (K+1) d,.slice x' m d']:=by
  have:=Own.made (w.alloc (.cells #[.slice a n c] 26)) 83 [.slice (some ⟨bb,oo,none⟩) (K+1) d,.slice x' m d']
  rw[show (w.alloc (.cells #[.slice a n c] 26)).heap.size=w.heap.size+1 by simp] at this
  rw[hW]; exact this.alloc _
 have k3:Own W (w.heap.size+1+1) 26 [.slice none 0 0]:=by
  have:=Own.made ((w.alloc (.cells #[.slice a n c] 26)).alloc (.cells #[.slice (some ⟨bb,oo,none⟩) (K+1) d,.slice x' m d'] 83)) 26 [.slice none 0 0]
  rw[show ((w.alloc (.cells #[.slice a n c] 26)).alloc (.cells #[.slice (some ⟨bb,oo,none⟩) (K+1) d,.slice x' m d'] 83)).heap.size=w.heap.size+1+1 by simp] at this
  rw[hW]; exact this
 have CW:=hid (Uu a n c q s A W.drew ((H.below hB).below ((Below.refl _ W).drew)));obtain⟨R,hR⟩:∃ R,Zg A q s.data.toList=R:=⟨_,rfl⟩;rw[hR] at CW h1 h3 ⊢;obtain⟨A1,E1⟩:=R;dsimp only at CW h1 h3 ⊢;subst h1;have HB:=hid (And.intro hB (And.intro k1 (And.intro k2 (And.intro k3 (HC.below hB)))));have a0:=k1.cell (i:=0) rfl;have c0:=k2.cell (i:=0) rfl;have y0:=(hB.cell (p:=⟨bb,oo+K*2,none⟩) hbb).trans x0;have l0:w.heap.size<W.heap.size:=k1.lt;have l1:w.heap.size+1<W.heap.size:=k2.lt;have l2:bb<W.heap.size:=Nat.lt_of_lt_of_le hbb hB.size;clear hR hK H HC x0 x1 hB k1 k2 k3;have u0:IntKind.i64.wrap (K:Int)=K:=IntWalk.i64_in _ (by omega)
 have u1:(0:Int)<=K:=by omega
 have u2:(K:Int)<(K:Int)+1:=by omega
 go_enter Tryz.func48,Tryz.ntmps48
 go_upto_region 1 with fail
 rw[<- hW];clear hW;refine Zq (fun w'=>w'.cell? ⟨w.heap.size+1,0,none⟩=some (.slice (some ⟨bb,oo,none⟩) (K+1) d)∧w'.cell? ⟨bb,oo+K*2,none⟩=some (.int .i64 q)) (fun w'=>w'.cell? ⟨w.heap.size,0,none⟩=some (.slice a n c)) 11 (by kernel_rfl) ⟨c0,y0⟩ a0 (fun hT=>?_)
 refine Ul (i:=0) (v:=?v0) rfl (by kernel_rfl) (by kernel_rfl) (by kernel_rfl) (fun _ _ _ h=>h) (by rfl) ?hy0 hT ?rest0
 case hy0=>(intro w hSw; (try dsimp only at hSw); go_simp; (first | done | with_reducible rfl))
 clear hT; intro hT; try simp only[Act.put,List.setIfInBounds_toArray,List.set]
 refine tkn (i:=1) rfl (by kernel_rfl) (fun _ _ _ h=>h) (by rfl) (by intro w h; (try dsimp only at h); go_simp; first | done | with_reducible rfl) hT ?_
 clear hT; intro hT; try simp only[Act.put,List.setIfInBounds_toArray,List.set]
 refine tkn (i:=2) rfl (by kernel_rfl) (fun _ _ _ h=>h) (by rfl) (by intro w h; (try dsimp only at h); go_simp; first | done | with_reducible rfl) hT ?_
 clear hT; intro hT; try simp only[Act.put,List.setIfInBounds_toArray,List.set]
 refine tkn (i:=3) rfl (by kernel_rfl) (fun _ _ _ h=>h) (by rfl) (by intro w h; (try dsimp only at h); go_simp; first | done | with_reducible rfl) hT ?_
 clear hT; intro hT; try simp only[Act.put,List.setIfInBounds_toArray,List.set]
 refine tkn (i:=4) rfl (by kernel_rfl) (fun _ _ _ h=>h) (by rfl) (by intro w h; (try dsimp only at h); go_simp; first | done | with_reducible rfl) hT ?_
 clear hT; intro hT; try simp only[Act.put,List.setIfInBounds_toArray,List.set]
 refine tkn (i:=5) rfl (by kernel_rfl) (fun _ _ _ h=>h) (by rfl) (by intro w h; (try dsimp only at h); go_simp; first | done | with_reducible rfl) hT ?_
 clear hT; intro hT; try simp only[Act.put,List.setIfInBounds_toArray,List.set]
 refine tkn (i:=6) rfl (by kernel_rfl) (fun _ _ _ h=>h) (by rfl) (by intro w h; (try dsimp only at h); go_simp; first | done | with_reducible rfl) hT ?_
 clear hT; intro hT; try simp only[Act.put,List.setIfInBounds_toArray,List.set]
 refine tkn (i:=7) rfl (by kernel_rfl) (fun _ _ _ h=>h) (by rfl) (by intro w h; (try dsimp only at h); go_simp; first | done | with_reducible rfl) hT ?_
 clear hT; intro hT; try simp only[Act.put,List.setIfInBounds_toArray,List.set]
 refine tkn (i:=8) rfl (by kernel_rfl) (fun _ _ _ h=>h) (by rfl) (by intro w h; (try dsimp only at h); go_simp; first | done | with_reducible rfl) hT ?_
 clear hT; intro hT; try simp only[Act.put,List.setIfInBounds_toArray,List.set]
 refine tkn (i:=9) rfl (by kernel_rfl) (fun _ _ _ h=>h) (by rfl) (by intro w h; (try dsimp only at h); go_simp; first | done | with_reducible rfl) hT ?_
 clear hT; intro hT; try simp only[Act.put,List.setIfInBounds_toArray,List.set]
 refine tkn (i:=10) rfl (by kernel_rfl) (fun _ _ _ h=>h) (by rfl) (by intro w h; (try dsimp only at h); go_simp; first | done | with_reducible rfl) hT ?_
 clear hT; intro hT; try simp only[Act.put,List.setIfInBounds_toArray,List.set]
 refine Z0 (i:=11) rfl (by kernel_rfl) (fun K' hK=>?_)
 go_simp
 go_at_call 97
 refine CW.out.mono ?_
 rintro _ w5 ⟨⟨x5,n5,c5,rfl,hX⟩,g5⟩;have g6:=undrew g5;refine hK.out _ _ ?hS11 ?rest11
 case hS11=>exact⟨⟨cell_at g6 c0,cell_at g6 y0⟩,fun h=>(by cases h)⟩
 clear hT hK K'; intro hT
 refine tkn (i:=12) rfl (by kernel_rfl) (fun _ _ _ h=>h) (by rfl) (by intro w h; (try dsimp only at h); go_simp; first | done | with_reducible rfl) hT ?_
 clear hT; intro hT; try simp only[Act.put,List.setIfInBounds_toArray,List.set]
 refine tkn (i:=13) rfl (by kernel_rfl) (fun _ _ _ h=>h) (by rfl) (by intro w h; (try dsimp only at h); go_simp; first | done | with_reducible rfl) hT ?_
 clear hT; intro hT; try simp only[Act.put,List.setIfInBounds_toArray,List.set]
 refine tkn (i:=14) rfl (by kernel_rfl) (fun _ _ _ h=>h) (by rfl) (by intro w h; (try dsimp only at h); go_simp; first | done | with_reducible rfl) hT ?_
 clear hT; intro hT; try simp only[Act.put,List.setIfInBounds_toArray,List.set]
 have e1:=(HB.out.2.1.below' g6).cell (i:=0) rfl;have e2:=(HB.out.2.1.below' g6).free 0;have ee:=cell_at g6 y0;have ec:=cell_at g6 c0;have hbx:w5.cell? ⟨w.heap.size,0,none⟩=some (.slice a n c):=e1
 refine Z0 (i:=15) rfl (by kernel_rfl) (fun K' hK=>?_)
 go_simp;refine hK.out _ _ ?hS15 ?rest15
 case hS15=>exact⟨⟨by rw[World.cell?_setCell_other _ _ _ _ (by simp)]; exact ec,by rw[World.cell?_setCell_other _ _ _ _ (fun e=>by have:=congrArg Addr.block e; dsimp only at this; omega)]; exact ee⟩,fun h=>(by cases h)⟩
 clear hT hK K'; intro hT; try simp only[Act.put,List.setIfInBounds_toArray,List.set]
 refine tkn (i:=16) rfl (by kernel_rfl) (fun _ _ _ h=>h) (by rfl) (by intro w h; (try dsimp only at h); go_simp; first | done | with_reducible rfl) hT ?_
 clear hT; intro hT; try simp only[Act.put,List.setIfInBounds_toArray,List.set]
 refine Zw (by kernel_rfl) ?_ _
 clear hT;have k6:Z5 (w5.setCell ⟨w.heap.size,0,none⟩ (.slice x5 n5 c5)) x5 n5 A1:=by
  rcases hX with ⟨h1,h2,_⟩ | ⟨b,hd,h1,hb,h2⟩
  ·exact .inl ⟨h1,h2⟩
  ·exact .inr ⟨b,0,hd,h1,(h2.box (p:=w.heap.size) (by have hb':W.heap.size<=b:=hb; omega) e1 _).arr⟩
 have q1:=(HB.out.2.1.below' g6).set (i:=0) (by simp) (.slice x5 n5 c5)
 have q2:=(HB.out.2.2.1.below' g6).other (p:=⟨w.heap.size,0,none⟩) (by show w.heap.size+1≠w.heap.size; omega) (.slice x5 n5 c5)
 have q3:=(HB.out.2.2.2.1.below' g6).other (p:=⟨w.heap.size,0,none⟩) (by show w.heap.size+1+1≠w.heap.size; omega) (.slice x5 n5 c5)
 have q4:=(HB.out.2.2.2.2.below g6).slices e1 (.slice x5 n5 c5);have q5:=(HB.out.1.trans (g6.mono HB.out.1.size)).setCell (p:=⟨w.heap.size,0,none⟩) (by show w.heap.size<=w.heap.size; omega) (.slice x5 n5 c5)
 obtain⟨W6,hW6⟩:∃ W6,W6=w5.setCell ⟨w.heap.size,0,none⟩ (.slice x5 n5 c5):=⟨_,rfl⟩;rw[<- hW6] at k6 q1 q2 q3 q4 q5 ⊢;clear hW6 g5 g6 hX e1 e2 ee ec hbx c0 y0 a0 CW l0 l1 l2 HB;have CE:=hid (Z71 (some ⟨bb,oo,none⟩) (K+1) d x' m d' C W6 q4);rw[show WK C=(encB C,0) by rw[WK,if_pos h2]] at CE
 dsimp only at CE;have m0:=q2.cell (i:=0) rfl;have m1:=q2.cell (i:=1) rfl;have HQ:=hid (And.intro q5 (And.intro q1 (And.intro q3 k6)));clear q1 q2 q3 q4 q5 k6;have hz:(str (encB C)).size=(encB C).length:=str_size _;have HI:=hid (show str (encB C)++str (List.replicate (192-(encB C).length) 0)=str (imgC C) by rw[str_app]; rfl)
 have CR:=hid (fun wx=>Z40 (192-(encB C).length) wx (by omega))
 obtain⟨R,hR⟩:∃ R,Zg A1 0 (imgC C)=R:=⟨_,rfl⟩;have CS:=hid (fun (t:ByteArray) wx (g:Below W6.heap.size W6 wx)=>Uu x5 n5 c5 0 t A1 wx (HQ.out.2.2.2.below g))
 have CS2:=hid (fun wx (g:Below W6.heap.size W6 wx)=>by
  have:=CS.out (str (imgC C)) wx g
  rw[str_list,hR] at this;exact this)
 rw[hR] at h3 ⊢;obtain⟨A2,E2⟩:=R;dsimp only at h3 CS2 ⊢;subst h3;have ha:∀ wx,(Op.stringOp .add (str (encB C)) (str (List.replicate (192-(encB C).length) 0))).run Tryz.prog wx=.ok (.string (str (imgC C))) wx:=fun wx=>by
  rw[<- HI.out];exact run_string_add_sum wx _ _ (by rw[str_size,str_size,List.length_replicate]; omega)
 generalize str (imgC C)=ZY at ha CS2;have HRR:=hid hR;clear hR CS HI;have u3:IntKind.i64.wrap (192-((encB C).length:Int))=((192-(encB C).length:Nat):Int):=by rw[IntWalk.i64_in _ (by omega)]; omega
 generalize 192-(encB C).length=M at CR u3 ha;generalize str (List.replicate M 0)=Y at CR ha;generalize str (encB C)=Z at CE hz ha;rw[<- hz] at u3;clear hz hel;generalize (encB C).length=Q at *;go_wp2_with fail
 refine CE.out.mono ?_
 rintro _ w7 ⟨rfl,g7⟩;have HR:=hid (And.intro g7 (And.intro (HQ.out.2.1.below' g7) (And.intro (HQ.out.2.2.1.below' g7) (HQ.out.1.trans (g7.mono HQ.out.1.size)))));have a0:=HR.out.2.1.cell (i:=0) rfl;have b0:=HR.out.2.2.1.cell (i:=0) rfl;have b1:=HR.out.2.2.1.free 0;have lt7:w.heap.size+1+1<w7.heap.size:=HR.out.2.2.1.lt;clear CE g7 m0 m1;have HO:=hid (fun (wx w8:World) (x8:Option Addr) (n8 c8:Nat) (g:Below w7.heap.size w7 wx) hX (g8:Below wx.heap.size wx w8)=>Ud (w:=w) (W:=wx) (w2:=w8) (p:=w.heap.size+1+1) (r:=(A2,0)) (x:=x8) (n:=n8) (c:=c8) (HR.out.2.2.2.trans (g.mono HR.out.2.2.2.size)) (by omega) (Nat.lt_of_lt_of_le lt7 g.size) (cell_at g b0) hX g8)
 go_wp2_with fail
 go_region_held3 (fun w'=>w'.cell? ⟨w.heap.size,0,none⟩=some (.slice x5 n5 c5)) (go_keep) (first | (go_at_call 99; refine (CR.out _).mono ?_; rintro _ w8 ⟨rfl,g8⟩; (have g8':=undrew g8); (have j8:=cell_at g8' a0); (have G8:=hid g8'); clear g8) | (go_at_call 97; refine (CS2.out _ (HR.out.1.trans (G8.out.mono HR.out.1.size))).mono ?_; rintro _ w9 ⟨⟨x9,n9,c9,rfl,hX⟩,g9⟩; (have j9:=cell_at g9 j8); (have j9b:(w9.setCell ⟨w.heap.size+1+1,0,none⟩ (.slice x9 n9 c9)).cell? ⟨w.heap.size,0,none⟩=some (.slice x5 n5 c5):=by rw[World.cell?_setCell_other _ _ _ _ (fun e=>by have:=congrArg Addr.block e; dsimp only at this; omega)]; exact j9); (have F9:=hid (HO.out _ w9 x9 n9 c9 G8.out hX g9)); (have d0:=cell_at g9 (cell_at G8.out b0)); (have d1:=(g9.frozen (p:=⟨w.heap.size+1+1,0,none⟩) (Nat.lt_of_lt_of_le lt7 G8.out.size)).trans ((G8.out.frozen (p:=⟨w.heap.size+1+1,0,none⟩) lt7).trans b1)); (have y9:=World.cell?_setCell_same w9 ⟨w.heap.size+1+1,0,none⟩ (.slice x9 n9 c9) d0); clear hX g9))
 all_goals go_wp2
 all_goals (refine bodyPost_ret (v:=.tuple #[.agg #[.slice x9 n9 c9],.int .i64 0]) (by simp[results,Tryz.results48,go_sem,y9]) rfl ?_)
 all_goals rw[HRR.out]
 all_goals exact F9.out
end Go.Proofs.YtdnacpbgodooaaaGreatDoor
namespace Go.Proofs.YtdnacpbgodooaaaGreatDoor
open Go.RowKit Go.Lib
theorem Z85 (C:Ct) (F:List Fi) (hc:catChk C=0) (hf:filChk F=0) (ht:takN C F F.length=false) (E':List En) (hp:E'.Perm (C.2++ZK F C.1.length F.length)) (hs:E'.Pairwise fun x y=>lss y.s x.s=false):E'=insAll C.2 (ZK F C.1.length F.length):=by
 obtain⟨_,_,_,f4⟩:=Xx F hf;exact Z7z E' _ (hp.trans (ZQ _ _).symm) (Qs C F (Z1n C hc) ht (fun k hk=>(f4 k hk).2.2) F.length (Nat.le_refl _)) hs
theorem Z81 (A:Ar) (C:Ct) (F:List Fi):Z55 A (C.2.length+F.length) (C.1.length+1) (atC C) (pk F).length=XU A C F:=by
 unfold Z55 XU
 congr 1
 rw[eq_iff_iff];omega
theorem Z7p (C:Ct) (hc:catChk C=0):atC C<=64:=by
 obtain⟨_,_,h3,_⟩:=Xg C hc;exact (Z2t C.1 _ h3).2
theorem Z7b (a:Option Addr) (n c:Nat) (A:Ar) (b:Option Addr) (k d:Nat) (F:List Fi) (w:World) (H:Z5 w a n A) (HF:ZV w b k F) (hd:k<=d):
  Calls Tryz.prog 17 #[.agg #[.slice a n c],.slice b k d] w (OutA w (addA A F)):=by
 have hsn:=HF.sn;subst hsn;obtain⟨W,hW⟩:∃ W,W=(w.alloc (.cells #[.slice a n c] 26)).alloc (.cells #[.slice none 0 0] 26):=⟨_,rfl⟩;have hB:Below w.heap.size w W:=by rw[hW]; go_grown
 have k1:Own W w.heap.size 26 [.slice a n c]:=by rw[hW]; exact (Own.made w 26 [.slice a n c]).alloc _
 have k2:Own W (w.heap.size+1) 26 [.slice none 0 0]:=by
  have:=Own.made (w.alloc (.cells #[.slice a n c] 26)) 26 [.slice none 0 0]
  rw[show (w.alloc (.cells #[.slice a n c] 26)).heap.size=w.heap.size+1 by simp] at this
  rw[hW]; exact this
 have CA:=Tc a n c A W (H.below hB);rw[hW] at CA;have HB:=hid (And.intro hB (And.intro k1 (And.intro k2 (And.intro (H.below hB) (HF.below hB)))));have HE:=hid hW;have hlt:w.heap.size+1<W.heap.size:=k2.lt;have HN:=hid (fun (T:Int) (wx:World) (g:Below W.heap.size W wx)=>show OutA w ([],T) (.returned (.tuple #[.agg #[.slice none 0 0],.int .i64 T])) (wx.setCell ⟨w.heap.size+1,0,none⟩ (.slice none 0 0)) from Zp ((bel3 hB g).setCell (by show w.heap.size<=w.heap.size+1; omega) _))
 have HR:=hid (fun (wx:World) (g:Below W.heap.size W wx)=>And.intro ((k2.below' g).cell (i:=0) rfl) (And.intro ((k2.below' g).free 0) (World.cell?_setCell_same wx ⟨w.heap.size+1,0,none⟩ (.slice none 0 0) ((k2.below' g).cell (i:=0) rfl))))
 unfold addA;have HC:=Qk A;obtain⟨R,hR⟩:∃ R,opn A=R:=⟨_,rfl⟩;rw[hR] at CA HC ⊢;obtain⟨C,T⟩:=R;dsimp only at CA HC ⊢;have H1:=hid CA;clear CA hR hB hW H HF k1 k2
 by_cases e:T=0
 ·rw[if_pos e]
  subst e;obtain⟨hc,hm,h16⟩:=HC rfl;clear HC;have e0:((0:Int) != 0)=false:=rfl;unfold addC;obtain⟨O,hO⟩:∃ O:Ar × Int,O=if filChk F=0 then (if takN C F F.length=true then ([],7) else if XU A C F=true then ([],8) else (outA A C F,0)) else ([],filChk F):=⟨_,rfl⟩
  rw[<- hO];have HO:=hid hO;clear hO;go_enter Tryz.func17,Tryz.ntmps17
  go_wp2_with fail
  refine H1.out.mono ?_
  rintro _ w1 ⟨x,n1,d1,x',m,d',rfl,hX,g1⟩;rw[<- HE.out] at g1;have hn1:n1=C.1.length:=hX.B.sn;have hm1:m=C.2.length:=hX.E.sn;subst hn1 hm1;dsimp only at hX;obtain⟨W2,hW2⟩:∃ W2,W2=w1.alloc (.cells #[.slice x C.1.length d1,.slice x' C.2.length d'] 83):=⟨_,rfl⟩;have b2:Below w1.heap.size w1 W2:=by rw[hW2]; go_grown
  have hz2:W.heap.size<=w1.heap.size:=g1.size;have k3:Own W2 w1.heap.size 83 [.slice x C.1.length d1,.slice x' C.2.length d']:=by rw[hW2]; exact Own.made w1 _ _
  have G2:=hid (And.intro (g1.trans (b2.mono g1.size)) (And.intro k3 (hX.below b2)));clear g1 hX b2 k3 H1;go_upto_region 2 with fail
  rw[<- hW2];clear hW2;generalize w1.heap.size=p2 at G2 hz2 ⊢;have CF:=hid (To b F.length d F W2 (HB.out.2.2.2.2.below G2.out.1) hd);go_wp2_with fail
  refine CF.out.mono ?_
  rintro _ w3 ⟨rfl,g3⟩;have G3:=hid (And.intro (G2.out.1.trans (g3.mono G2.out.1.size)) (And.intro (G2.out.2.1.below' g3) (G2.out.2.2.below g3)));clear g3 G2 CF
  by_cases f:filChk F=0
  ·have f0:(filChk F != 0)=false:=by rw[bne_eq_false_iff_eq]; exact f
   have HF0:=hid (Xx F f);have hf:=hid f;have c0:=G3.out.2.1.cell (i:=0) rfl;have c1:=G3.out.2.1.cell (i:=1) rfl;have CT:=hid (Z3V x C.1.length d1 x' C.2.length d' C b F.length d F w3 G3.out.2.2 (HB.out.2.2.2.2.below G3.out.1) hc);clear f;go_wp2_with fail
   refine CT.out.mono ?_
   rintro _ w4 ⟨rfl,g4⟩;have G4:=hid (And.intro (G3.out.1.trans (g4.mono G3.out.1.size)) (And.intro (G3.out.2.1.below' g4) (G3.out.2.2.below g4)));clear g4 G3 CT c0 c1;cases ht:takN C F F.length with
   | true=>
    have E:=hid (show O=([],7) by rw[HO.out,if_pos hf.out,if_pos ht])
    obtain⟨r0,r1,y0⟩:=HR.out w4 G4.out.1;have FIN:=hid (HN.out 7 w4 G4.out.1);clear G4 ht f0;go_wp2
    refine bodyPost_ret (v:=.tuple #[.agg #[.slice none 0 0],.int .i64 7]) (by simp[results,Tryz.results17,go_sem,y0]) rfl ?_
    rw[E.out];exact FIN.out
   | false=>
    have HT:=hid ht;clear ht f0;have c0:=G4.out.2.1.cell (i:=0) rfl;have CG:=hid (Jd b F.length d F C.1.length w4 (HB.out.2.2.2.2.below G4.out.1) hd hf.out);go_wp2_with fail
    refine CG.out.mono ?_
    rintro _ w5 ⟨ao,m5,cap5,rfl,hE,g5⟩;have G5:=hid (And.intro (G4.out.1.trans (g5.mono G4.out.1.size)) (And.intro (G4.out.2.1.below' g5) (And.intro (G4.out.2.2.below g5) hE)));clear g5 G4 CG c0 hE;have CP:=hid (Z6g (str (datN F F.length)) w5 (by rw[str_size,datN_len]; exact HF0.out.2.2.1))
    rw[str_list] at CP;change Hid (Calls Tryz.prog _ _ w5 fun e w'=>e=.returned (.tuple #[.string (str (pk F)),.int .i64 0])∧Below w5.heap.size w5 w') at CP
    generalize str (datN F F.length)=Y at CP ⊢;go_wp2_with fail
    refine CP.out.mono ?_
    rintro _ w6 ⟨rfl,g6⟩;have G6:=hid (And.intro (G5.out.1.trans (g6.mono G5.out.1.size)) (And.intro (G5.out.2.1.below' g6) (And.intro (G5.out.2.2.1.below g6) (G5.out.2.2.2.below g6))));clear g6 G5 CP;have hz:(str (pk F)).size=(pk F).length:=str_size _;have HZ:=hid (show (str (pk F)).data.toList=pk F from str_list _);have hm5:m5=F.length:=by rw[G6.out.2.2.2.sn,entsN_len]
    have CX:=hid (Z04 x C.1.length d1 x' C.2.length d' C (pk F).length ao m5 cap5 (ZK F C.1.length F.length) w6 G6.out.2.2.1 G6.out.2.2.2 hc (by have:=HF0.out.1; omega) (by have:=HF0.out.1; omega))
    have c0:=G6.out.2.1.cell (i:=0) rfl;have c1:=G6.out.2.1.cell (i:=1) rfl;have f0:=G6.out.2.1.free 0;have f1:=G6.out.2.1.free 1;obtain⟨Z,hZZ⟩:∃ Z,str (pk F)=Z:=⟨_,rfl⟩;rw[hZZ] at hz HZ ⊢;clear hZZ hm5;go_wp2_with fail
    refine CX.out.mono ?_
    rintro _ w7 ⟨x7,n7,d7,y7,m7,e7,E',rfl,hK,⟨p1,p2'⟩,g7⟩;have hn7:n7=C.1.length+1:=by rw[hK.B.sn]; simp
    have hE':=Z85 C F hc hf.out HT.out E' p1 p2';have hm7:m7=C.2.length+F.length:=by rw[hK.E.sn]; show E'.length=_; rw[hE',insAll_len,entsN_len]
    subst hn7 hm7;have k7:=G6.out.2.1.below' g7;obtain⟨W8,hW8⟩:∃ W8,W8=(w7.setCell ⟨p2,0,none⟩ (.slice x7 (C.1.length+1) d7)).setCell ⟨p2,1,none⟩ (.slice y7 (C.2.length+F.length) e7):=⟨_,rfl⟩;have q0:=k7.cell (i:=0) rfl;have q1:=k7.cell (i:=1) rfl;have q2:=k7.free 0;have q3:=k7.free 1;have k8:Own W8 p2 83 [.slice x7 (C.1.length+1) d7,.slice y7 (C.2.length+F.length) e7]:=by rw[hW8]; exact (k7.set (i:=0) (by simp) _).set (i:=1) (by simp) _
    have kC:ZW W8 x7 (C.1.length+1) d7 y7 (C.2.length+F.length) (C.1++[⟨atC C,(pk F).length⟩],E'):=by rw[hW8]; exact (hK.slices q0 _).slices ((k7.set (i:=0) (by simp) (.slice x7 (C.1.length+1) d7)).cell (i:=1) rfl) _
    have kB:Below W.heap.size W W8:=by rw[hW8]; exact ((G6.out.1.trans (g7.mono G6.out.1.size)).setCell (p:=⟨p2,0,none⟩) (by show W.heap.size<=p2; exact hz2) _).setCell (p:=⟨p2,1,none⟩) (by show W.heap.size<=p2; exact hz2) _
    have G8:=hid (And.intro kB (And.intro k8 kC));have a0:=(HB.out.2.1.below' kB).cell (i:=0) rfl;have b0:=k8.cell (i:=0) rfl;have b1:=k8.cell (i:=1) rfl;have CL:=hid (Z6L a n c A x7 d7 y7 (C.2.length+F.length) e7 C.1 E' (atC C) (pk F).length W8 (HB.out.2.2.2.1.below kB) hm kC (by have:=Z7p C hc; omega) (by have:=JG F HF0.out.2.2.1; omega) (by have:=(Xg C hc).1; omega) (by have:=(Xg C hc).2.1; have:=HF0.out.1; omega))
    rw[Z81] at CL;have HE':=hid hE';clear g7 hK p1 p2' k7 k8 kC kB CX c0 c1 f0 f1 hE' G6;go_upto_region 12 with fail
    rw[<- hW8];clear hW8 q0 q1 q2 q3;go_wp2_with fail
    refine CL.out.mono ?_
    rintro _ w9 ⟨rfl,g9⟩;have G9:=hid (And.intro (G8.out.1.trans (g9.mono G8.out.1.size)) (And.intro (G8.out.2.1.below' g9) (G8.out.2.2.below g9)));clear g9 G8 CL a0 b0 b1;cases hu:XU A C F with
    | true=>
     have E:=hid (show O=([],8) by rw[HO.out,if_pos hf.out,if_neg (by rw[HT.out]; decide),if_pos hu])
     obtain⟨r0,r1,y0⟩:=HR.out w9 G9.out.1;have FIN:=hid (HN.out 8 w9 G9.out.1);clear G9 hu;go_wp2
     refine bodyPost_ret (v:=.tuple #[.agg #[.slice none 0 0],.int .i64 8]) (by simp[results,Tryz.results17,go_sem,y0]) rfl ?_
     rw[E.out];exact FIN.out
    | false=>
     have E:=hid (show O=(outA A C F,0) by rw[HO.out,if_pos hf.out,if_neg (by rw[HT.out]; decide),if_neg (by rw[hu]; decide)])
     obtain⟨z1,z2,z3,_,_⟩:=Z11 A C F hm h16 hc hf.out HT.out hu;have HCA:catA C F=(C.1++[⟨atC C,(pk F).length⟩],E'):=by rw[HE'.out]; rfl
     unfold outA at E;rw[HCA] at z2 z3 E;have CS:=Z41 a n c A x7 d7 y7 (C.2.length+F.length) e7 C.1 E' (atC C) (pk F).length Z w9 (HB.out.2.2.2.1.below G9.out.1) G9.out.2.2 (by have:=(Xg C hc).1; omega) (by rw[HZ.out]; exact z1) z2 (by rw[HZ.out]; exact z3)
     rw[HZ.out,<- E.out] at CS;have C2:=hid CS;have hO0:=hid (show O.2=0 by rw[E.out])
     have a0:=(HB.out.2.1.below' G9.out.1).cell (i:=0) rfl;have b0:=G9.out.2.1.cell (i:=0) rfl;have b1:=G9.out.2.1.cell (i:=1) rfl;have r0:=(HB.out.2.2.1.below' G9.out.1).cell (i:=0) rfl;have hlt9:w.heap.size+1<w9.heap.size:=Nat.lt_of_lt_of_le hlt G9.out.1.size;have HBX:=hid (fun (w10:World) (x8:Option Addr) (n8 c8:Nat) hX (g8:Below w9.heap.size w9 w10)=>Ud (w:=w) (W:=w9) (w2:=w10) (p:=w.heap.size+1) (r:=O) (x:=x8) (n:=n8) (c:=c8) (bel3 HB.out.1 G9.out.1) (by omega) hlt9 r0 hX g8)
     have HR9:=hid (fun (w10:World) (v:Value) (g8:Below w9.heap.size w9 w10)=>And.intro ((HB.out.2.2.1.below' (G9.out.1.trans (g8.mono G9.out.1.size))).cell (i:=0) rfl) (And.intro ((HB.out.2.2.1.below' (G9.out.1.trans (g8.mono G9.out.1.size))).free 0) (World.cell?_setCell_same w10 ⟨w.heap.size+1,0,none⟩ v ((HB.out.2.2.1.below' (G9.out.1.trans (g8.mono G9.out.1.size))).cell (i:=0) rfl))))
     clear hu z1 z2 z3 HCA CS G9 r0;go_wp2_with fail
     refine C2.out.mono ?_
     rintro _ w10 ⟨⟨x8,n8,c8,rfl,hX8⟩,g8⟩;obtain⟨r0,r1,y0⟩:=HR9.out w10 (.slice x8 n8 c8) g8;have FIN:=hid (HBX.out w10 x8 n8 c8 hX8 g8);rw[hO0.out] at FIN;rw[hO0.out];clear hX8 g8 C2 a0 b0 b1;go_wp2
     refine bodyPost_ret (v:=.tuple #[.agg #[.slice x8 n8 c8],.int .i64 0]) (by simp[results,Tryz.results17,go_sem,y0]) rfl ?_
     exact FIN.out
  ·have f0:(filChk F != 0)=true:=by rw[bne_iff_ne]; exact f
   have E:=hid (show O=([],filChk F) by rw[HO.out,if_neg f])
   clear f;generalize filChk F=V at *;obtain⟨r0,r1,y0⟩:=HR.out w3 G3.out.1;have FIN:=hid (HN.out V w3 G3.out.1);clear G3;go_wp2
   refine bodyPost_ret (v:=.tuple #[.agg #[.slice none 0 0],.int .i64 V]) (by simp[results,Tryz.results17,go_sem,y0]) rfl ?_
   rw[E.out];exact FIN.out
 ·rw[if_neg e]
  have e0:(T != 0)=true:=by rw[bne_iff_ne]; exact e
  clear e HC;go_enter Tryz.func17,Tryz.ntmps17
  go_wp2_with fail
  refine H1.out.mono ?_
  rintro _ w1 ⟨x,n1,d1,x',m,d',rfl,hX,g1⟩;rw[<- HE.out] at g1;have g2:=g1.alloc g1.size (.cells #[.slice x n1 d1,.slice x' m d'] 83);obtain⟨r0,r1,y0⟩:=HR.out _ g2;have FIN:=hid (HN.out T _ g2);clear hX g1 g2 H1;go_wp2
  refine bodyPost_ret (v:=.tuple #[.agg #[.slice none 0 0],.int .i64 T]) (by simp[results,Tryz.results17,go_sem,y0]) rfl ?_
  exact FIN.out
end Go.Proofs.YtdnacpbgodooaaaGreatDoor
