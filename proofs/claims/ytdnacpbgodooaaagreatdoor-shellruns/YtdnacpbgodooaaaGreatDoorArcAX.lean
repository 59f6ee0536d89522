import Derived.Test.YtdnacpbgodooaaaGreatDoorSrtRow
import Derived.Test.YtdnacpbgodooaaaGreatDoorCatRA
set_option maxHeartbeats 1600000
set_option maxRecDepth 4000
namespace Go.Proofs.YtdnacpbgodooaaaGreatDoor
open Go.RowKit Go.Lib
theorem QA (E:List En) (j:Nat) (v:Value) (h:(entV E)[j]?=some v):∃ i,i<E.length∧((j=i*4∧v=.string (en E i).s)∨(j=i*4+1∧v=.int .i64 (en E i).b)∨(j=i*4+2∧v=.int .i64 (en E i).a)∨(j=i*4+3∧v=.int .i64 (en E i).n)):=by
 have hj:j<E.length*4:=by
  rcases Nat.lt_or_ge j (E.length*4) with h1 | h1
  ·exact h1
  ·rw[List.getElem?_eq_none (by rw[Wu]; exact h1)] at h; cases h
 obtain⟨a0,a1,a2,a3⟩:=Wg E (j / 4) (by omega)
 refine⟨j / 4,by omega,?_⟩
 have h4:j % 4<4:=by omega
 have e:j=j / 4*4+j % 4:=by omega
 generalize j / 4=q at *;generalize j % 4=r at *;subst e
 match r,h4 with
 | 0,_=>rw[Nat.add_zero,a0] at h; exact .inl ⟨by omega,(Option.some.inj h).symm⟩
 | 1,_=>rw[a1] at h; exact .inr (.inl ⟨rfl,(Option.some.inj h).symm⟩)
 | 2,_=>rw[a2] at h; exact .inr (.inr (.inl ⟨rfl,(Option.some.inj h).symm⟩))
 | 3,_=>rw[a3] at h; exact .inr (.inr (.inr ⟨rfl,(Option.some.inj h).symm⟩))
theorem YT.row {w:World} {b o n:Nat} {E:List En} (h:YT w (some ⟨b,o,none⟩) n E):∀ j v,(entV E)[j]?=some v->w.cell? ((⟨b,o,none⟩:Addr).add j)=some v:=by
 intro j v hv;obtain⟨i,hi,q⟩:=QA E j v hv;obtain⟨b2,o2,e,_,c0,c1,c2,c3⟩:=h.c i (by rw[h.sn]; exact hi)
 cases e
 rw[Addr.add_lit]
 rcases q with ⟨rfl,rfl⟩ | ⟨rfl,rfl⟩ | ⟨rfl,rfl⟩ | ⟨rfl,rfl⟩
 ·exact c0
 ·rw[<- Nat.add_assoc]; exact c1
 ·rw[<- Nat.add_assoc]; exact c2
 ·rw[<- Nat.add_assoc]; exact c3
theorem VY (E:List En):∀ v∈entV E,v.oneCell'=true:=by
 intro v hv;obtain⟨j,hj⟩:=List.getElem?_of_mem hv
 obtain⟨i,_,⟨_,rfl⟩ | ⟨_,rfl⟩ | ⟨_,rfl⟩ | ⟨_,rfl⟩⟩:=QA E j v hj <;> rfl
theorem TG {w w':World} (g:w.grownBy w' none):Below w.heap.size w w':=⟨g.os,g.tape,g.output,g.size,fun k hk=>g.block k hk (by simp)⟩
theorem Z1N {w:World} {base e size m n cap g:Nat} {xs:List Value} (_hm:m=n) (h:w.ownsRow base e size (.slice (some ⟨g,0,none⟩) m cap) n xs):Own w g e xs∧base<=g:=by
 rcases h.2 with ⟨h0,_⟩ | ⟨g',cap',cur,hv,hg,hh,_,_,_,ht⟩
 ·cases h0
 ·cases hv
  exact⟨⟨cur.toList.drop (_*size),by rw[<- ht,List.take_append_drop]; exact hh⟩,hg⟩
theorem QW (w:World) {ops:Array Oper} {rest:List Oper} {o:Oper} {a:Act} {Q:Exit->Act->World->Prop} (hgd:o.guard=none) (s x:Operand)
  (ho:o.op=.call { callee:=.builtin .append,args:=#[s,x],argTypes:=#[80,80] })
  (b:Nat) (L:List Bk) (hs:a.eval s=.slice (some ⟨b,0,none⟩) L.length L.length) (hown:Own w b 100 (blkV L))
  (ad:Addr) (c:Nat) (y:Bk) (hx:a.eval x=.slice (some ad) 1 c) (hnews:∀ j u,(blkV [y])[j]?=some u->w.cell? (ad.add j)=some u) (hbd:L.length<=100000)
  (h:∀ g m cap w',Hid (m=(L++[y]).length)->w.heap.size<=g->W0 w' w.heap.size (.slice (some ⟨g,0,none⟩) m cap) (L++[y])->Below w.heap.size w w'->wpList Tryz.prog ops Q rest (a.put o.dst (.slice (some ⟨g,0,none⟩) m cap)) w'):
  wpList Tryz.prog ops Q (o::rest) a w:=by
 obtain⟨i0,hi,hz0,hz1,hz2⟩:=info_parts Vg;refine wpList_append_grows w hgd s x 80 ho 100 i0 _ 2 16 Tryz.underlying80 hi hz0 hz1 hz2 rfl (by decide) (some ⟨b,0,none⟩) L.length L.length (blkV L) hs (fun e=>by cases e) (Wz L) (fun b' e j u hu=>by cases e; rw[Addr.add_lit,Nat.zero_add]; exact hown.cell hu) ad 1 c (blkV [y]) hx rfl hnews (YE [y]) (by omega) (by unfold maxLen; omega) (by omega) ?_
 intro v' w' h1 h2;have h1':w'.ownsRow w.heap.size 100 2 v' (L++[y]).length (blkV (L++[y])):=by rw[Z2u,List.length_append]; exact h1
 obtain⟨g,cap,rfl,hg⟩:=Zb h1' (by simp)
 exact h g _ cap w' rfl hg h1' (TG h2)
theorem QX (w:World) {ops:Array Oper} {rest:List Oper} {o:Oper} {a:Act} {Q:Exit->Act->World->Prop} (hgd:o.guard=none) (s x:Operand)
  (ho:o.op=.call { callee:=.builtin .append,args:=#[s,x],argTypes:=#[81,81] })
  (b:Nat) (L:List En) (hs:a.eval s=.slice (some ⟨b,0,none⟩) L.length L.length) (hown:Own w b 95 (entV L))
  (ad:Addr) (k c:Nat) (N:List En) (hx:a.eval x=.slice (some ad) k c) (hk:k=N.length) (h1k:1<=k) (hnews:∀ j u,(entV N)[j]?=some u->w.cell? (ad.add j)=some u) (hbd:L.length+k<=100000)
  (h:∀ g m cap w',Hid (m=(L++N).length)->w.heap.size<=g->Xv w' w.heap.size (.slice (some ⟨g,0,none⟩) m cap) (L++N)->Below w.heap.size w w'->wpList Tryz.prog ops Q rest (a.put o.dst (.slice (some ⟨g,0,none⟩) m cap)) w'):
  wpList Tryz.prog ops Q (o::rest) a w:=by
 subst hk;obtain⟨i0,hi,hz0,hz1,hz2⟩:=info_parts Vf;refine wpList_append_grows w hgd s x 81 ho 95 i0 _ 4 40 Tryz.underlying81 hi hz0 hz1 hz2 rfl (by decide) (some ⟨b,0,none⟩) L.length L.length (entV L) hs (fun e=>by cases e) (Wu L) (fun b' e j u hu=>by cases e; rw[Addr.add_lit,Nat.zero_add]; exact hown.cell hu) ad N.length c (entV N) hx (Wu N) hnews (VY N) (by omega) (by unfold maxLen; omega) (by omega) ?_
 intro v' w' h1 h2;have h1':w'.ownsRow w.heap.size 95 4 v' (L++N).length (entV (L++N)):=by rw[QB,List.length_append]; exact h1
 obtain⟨g,cap,rfl,hg⟩:=Zb h1' (by rw[List.length_append]; omega)
 exact h g _ cap w' rfl hg h1' (TG h2)
structure ExtI (w0:World) (v1 v2:Value) (w:World):Prop where
 box:Own w w0.heap.size 83 [v1,v2]
 res:Own w (w0.heap.size+1) 83 [.slice none 0 0,.slice none 0 0]
 below:Below w0.heap.size w0 w
section
variable {w0 w w':World} {v1 v2:Value}
theorem ExtI.size (h:ExtI w0 v1 v2 w):w0.heap.size+2<=w.heap.size:=h.res.lt
theorem ExtI.to (h:ExtI w0 v1 v2 w) (g:Below w.heap.size w w'):ExtI w0 v1 v2 w':=⟨h.box.below' g,h.res.below' g,h.below.trans (g.mono h.below.size)⟩
theorem ExtI.chg (h:ExtI w0 v1 v2 w) {b:Nat} (hb:w0.heap.size+2<=b) (g:Chg (fun k=>k=b) w w'):ExtI w0 v1 v2 w':=⟨g.own h.box (by omega),g.own h.res (by omega),h.below.trans (g.below h.below.size (fun k hk=>by omega))⟩
theorem ExtI.set0 (h:ExtI w0 v1 v2 w) (v:Value):ExtI w0 v v2 (w.setCell ⟨w0.heap.size,0,none⟩ v):=
 ⟨h.box.set (i:=0) (by simp) v,h.res.other (by show w0.heap.size+1≠w0.heap.size; omega) v,h.below.setCell (by show w0.heap.size<=w0.heap.size; omega) v⟩
theorem ExtI.set1 (h:ExtI w0 v1 v2 w) (v:Value):ExtI w0 v1 v (w.setCell ⟨w0.heap.size,1,none⟩ v):=
 ⟨h.box.set (i:=1) (by simp) v,h.res.other (by show w0.heap.size+1≠w0.heap.size; omega) v,h.below.setCell (by show w0.heap.size<=w0.heap.size; omega) v⟩
end
def OutEx (w:World) (C:Ct) (P:Nat) (N:List En) (e:Ending) (w':World):Prop:=∃ a n c a' m c' E',e=.returned (.agg #[.slice a n c,.slice a' m c'])∧ZW w' a n c a' m (C.1++[⟨atC C,P⟩],E')∧(E'.Perm (C.2++N)∧E'.Pairwise fun x y=>lss y.s x.s=false)∧Below w.heap.size w w'
theorem Z04 (x:Option Addr) (n d:Nat) (x':Option Addr) (m d':Nat) (C:Ct) (P:Nat) (y:Option Addr) (k e:Nat) (N:List En) (w:World) (H:ZW w x n d x' m C) (HN:YT w y k N) (hc:catChk C=0) (hk:1<=k) (hk2:k<=10):
  Calls Tryz.prog 46 #[.agg #[.slice x n d,.slice x' m d'],.int .i64 P,.slice y k e] w fun e w'=>OutEx w C P N e w':=by
 obtain⟨t1,t2,t3,t4⟩:=Xg C hc;obtain⟨W,hW⟩:∃ W,W=(w.alloc (.cells #[.slice x n d,.slice x' m d'] 83)).alloc (.cells #[.slice none 0 0,.slice none 0 0] 83):=⟨_,rfl⟩;have hB:Below w.heap.size w W:=by rw[hW]; go_grown
 have I0:ExtI w (.slice x n d) (.slice x' m d') W:=by
  refine⟨by rw[hW]; exact (Own.made w 83 [.slice x n d,.slice x' m d']).alloc _,?_,hB⟩
  have:=Own.made (w.alloc (.cells #[.slice x n d,.slice x' m d'] 83)) 83 [.slice none 0 0,.slice none 0 0]
  rw[show (w.alloc (.cells #[.slice x n d,.slice x' m d'] 83)).heap.size=w.heap.size+1 by simp] at this
  rw[hW]; exact this
 have C1:=Z5u x _ d x' _ d' C W (H.below hB);rw[show Y4 C=((atC C:Int),0) by rw[Y4,if_pos hc]; rfl] at C1
 have hn:=H.B.sn;have hm:=H.E.sn;subst hn hm;have hnm:=fun i (hi:i<C.2.length)=>show (en C.2 i).s.size<=8 from (Zs _ ((ZO _ _).1 (WJ C.2 _ _ t4 i (by omega))).1).2
 have CC:=hid (fun wx (g:Below W.heap.size W wx)=>Z5x x C.1.length d x' C.2.length d' C wx ((H.below hB).below g) (by omega) (by omega) (fun i hi=>by have:=hnm i hi; omega))
 have HX:=hid (And.intro I0 (And.intro hW (HN.below hB)));rw[hW] at C1;have H1:=hid C1;have HNB:=hid HN;have HS:=hid (And.intro t1 (And.intro t2 hnm));clear C1 I0 hW hB H HN hnm t1 t2 t3 t4;go_enter Tryz.func46,Tryz.ntmps46
 go_wp2_with fail
 refine H1.out.mono ?_
 rintro _ w1 ⟨rfl,g1⟩;rw[<- HX.out.2.1] at g1;have I1:=HX.out.1.to g1;have c0:=I1.box.cell (i:=0) rfl;have c1:=I1.box.cell (i:=1) rfl;have f0:=I1.box.free 0;have f1:=I1.box.free 1;have C2:=hid (CC.out w1 g1);have HI1:=hid (And.intro I1 (And.intro (HX.out.2.2.below g1) (show w.heap.size+2<=w1.heap.size from I1.size)));clear I1 g1 H1 CC HX;go_wp2_with fail
 refine C2.out.mono ?_
 rintro _ w2 ⟨b,b',rfl,hb,hb',hne,o1,o2,g2⟩;have I2:=HI1.out.1.to g2;have q0:=I2.box.cell (i:=0) rfl;have q1:=I2.box.cell (i:=1) rfl;have r0:=I2.box.free 0;have r1:=I2.box.free 1;obtain⟨W3,hW3⟩:∃ W3,W3=(w2.setCell ⟨w.heap.size,0,none⟩ (.slice (some ⟨b,0,none⟩) C.1.length C.1.length)).setCell ⟨w.heap.size,1,none⟩ (.slice (some ⟨b',0,none⟩) C.2.length C.2.length):=⟨_,rfl⟩;have I3:ExtI w (.slice (some ⟨b,0,none⟩) C.1.length C.1.length) (.slice (some ⟨b',0,none⟩) C.2.length C.2.length) W3:=by rw[hW3]; exact (I2.set0 _).set1 _
 have hw1:=HI1.out.2.2;have p1:Own W3 b 100 (blkV C.1):=by rw[hW3]; exact (o1.other (by show b≠w.heap.size; omega) _).other (by show b≠w.heap.size; omega) _
 have p2:Own W3 b' 95 (entV C.2):=by rw[hW3]; exact (o2.other (by show b'≠w.heap.size; omega) _).other (by show b'≠w.heap.size; omega) _
 have a4:Below W3.heap.size W3 (W3.alloc (.cells #[.int .i64 (atC C),.int .i64 P] 100)):=by go_grown
 have I4:=I3.to a4;have NB:=hid (Qm W3 (atC C) P 100);have z0:=I3.box.cell (i:=0) rfl;have H4:=hid (And.intro I4 (And.intro (p1.below' a4) (p2.below' a4)));have HB:=hid (show w.heap.size+2<=b' by omega)
 have hwz:=I4.size;clear o1 o2 g2 I2 I3 I4 C2 HI1 c0 c1 f0 f1 p1 p2 a4 hb hb' hne;go_upto_region 3 with fail
 rw[<- hW3];clear hW3 q0 q1 r0 r1;go_upto_region 4 with (at_builtin; (refine QW _ rfl (.tmp 17) (.tmp 21) rfl b C.1 rfl H4.out.2.1 ⟨W3.heap.size,0,none⟩ 1 ⟨atC C,P⟩ rfl NB.out (by have:=HS.out.1; omega) ?_; intro g5 m5 cap5 w5 hm5 hg5 hown5 hb5; have I5:=H4.out.1.to hb5; (have y0:=I5.box.cell (i:=0) rfl); (have y1:=I5.box.free 0); have J5:=hid (And.intro (I5.set0 (.slice (some ⟨g5,0,none⟩) m5 cap5)) (And.intro ((Zo w5 w.heap.size 0 (.slice (some ⟨g5,0,none⟩) m5 cap5)).row hown5 (fun q hq=>by have:=H4.out.1.size; omega)) ((H4.out.2.2.below' hb5).other (p:=⟨w.heap.size,0,none⟩) (by have:=HB.out; show b'≠w.heap.size; omega) (.slice (some ⟨g5,0,none⟩) m5 cap5)))); clear hown5 hb5 I5))
 obtain⟨W6,hW6⟩:∃ W6,W6=w5.setCell ⟨w.heap.size,0,none⟩ (.slice (some ⟨g5,0,none⟩) m5 cap5):=⟨_,rfl⟩;rw[<- hW6] at J5 ⊢;clear hW6 y0 y1 NB H4 z0;have z1:=J5.out.1.box.cell (i:=1) rfl;obtain⟨yb,yo,ey,_,_⟩:=HNB.out.c 0 (by omega)
 subst ey;have hkn:=HNB.out.sn;have HNR:=hid (HNB.out.below J5.out.1.below).row;go_upto_region 5 with (at_builtin; (refine QX _ rfl (.tmp 25) (.tmp 26) rfl b' C.2 rfl J5.out.2.2 ⟨yb,yo,none⟩ k e N rfl hkn hk HNR.out (by have:=HS.out.2.1; omega) ?_; intro g7 m7 cap7 w7 hm7 hg7 hown7 hb7; have I7:=J5.out.1.to hb7; (have y0:=I7.box.cell (i:=1) rfl); (have y1:=I7.box.free 1); (have OW7:=Z1N hm7.out hown7); have J7:=hid (And.intro (I7.set1 (.slice (some ⟨g7,0,none⟩) m7 cap7)) (And.intro ((OW7.1).other (p:=⟨w.heap.size,1,none⟩) (by have:=OW7.2; have:=J5.out.1.size; show g7≠w.heap.size; omega) (.slice (some ⟨g7,0,none⟩) m7 cap7)) (And.intro ((Zo w7 w.heap.size 1 (.slice (some ⟨g7,0,none⟩) m7 cap7)).row ((chg_below (fun _=>False) hb7).row J5.out.2.1 (fun _ _ q=>q)) (fun q hq=>by have:=hwz; omega)) (show w.heap.size+2<=g7∧W6.heap.size<=g7 by have:=OW7.2; have:=J5.out.1.size; omega)))); clear hown7 hb7 I7 OW7))
 obtain⟨W8,hW8⟩:∃ W8,W8=w7.setCell ⟨w.heap.size,1,none⟩ (.slice (some ⟨g7,0,none⟩) m7 cap7):=⟨_,rfl⟩;rw[<- hW8] at J7 ⊢;clear hW8 y0 y1 z1 HNR;have e7:=hm7.out;subst e7;have z2:=J7.out.1.box.cell (i:=1) rfl;have CS:=hid (Tg g7 cap7 (C.2++N) W8 J7.out.2.1 (by rw[List.length_append,<- hkn]; have:=HS.out.2.1; omega) (fun z hz=>by
  rcases List.mem_append.1 hz with q | q
  ·obtain⟨i,hi,rfl⟩:=List.getElem_of_mem q
   have:=HS.out.2.2 i hi
   rw[YS C.2 i hi] at this;unfold maxLen; omega
  ·obtain⟨i,hi,rfl⟩:=List.getElem_of_mem q
   have:=HNB.out.nm i (by omega)
   rw[YS N i hi] at this;exact this))
 have KB:=hid (Ub J7.out.2.2.1 (by rw[List.length_append]; have:=HS.out.1; unfold maxLen; simp; omega))
 have KO:=hid (Z1N hm5.out J7.out.2.2.1).1;have hg56:g5<W6.heap.size:=by
  have:=(World.ownsRow.lt J5.out.2.1 g5 rfl).2
  exact this
 generalize hLN:(C.2++N).length=LN at *;have HLN:=hid hLN;clear hLN;go_wp2_with fail
 refine CS.out.mono ?_
 rintro _ w9 ⟨rfl,E',s1,s2,s3,s4⟩;rw[HLN.out] at s3;have I9:=J7.out.1.chg J7.out.2.2.2.1 s4;have OB:=s4.own KO.out (by have:=J7.out.2.2.2.2; omega)
 have hl5:(C.1++[(⟨atC C,P⟩:Bk)]).length<=maxLen:=by rw[List.length_append]; have:=HS.out.1; unfold maxLen; simp; omega
 have KC:ZW w9 (some ⟨g5,0,none⟩) m5 cap5 (some ⟨g7,0,none⟩) LN (C.1++[⟨atC C,P⟩],E'):=by
  refine⟨KB.out.2.1,?_,s3⟩
  rw[hm5.out];exact OB.blkAt hl5
 have b0:=I9.box.cell (i:=0) rfl;have b1:=I9.box.cell (i:=1) rfl;have rr:=box2_of I9.res;obtain⟨y0,y1⟩:=Z6 (.slice (some ⟨g5,0,none⟩) m5 cap5) (.slice (some ⟨g7,0,none⟩) LN cap7) rr.c0 rr.c1;have FIN:=hid (show OutEx w C P N (.returned (.agg #[.slice (some ⟨g5,0,none⟩) m5 cap5,.slice (some ⟨g7,0,none⟩) LN cap7])) ((w9.setCell ⟨w.heap.size+1,0,none⟩ (.slice (some ⟨g5,0,none⟩) m5 cap5)).setCell ⟨w.heap.size+1,1,none⟩ (.slice (some ⟨g7,0,none⟩) LN cap7)) from
  ⟨_,_,_,_,_,_,E',rfl,(KC.slices rr.c0 _).slices ((I9.res.set (i:=0) (by simp) (.slice (some ⟨g5,0,none⟩) m5 cap5)).cell (i:=1) rfl) _,⟨s1,s2⟩,Below.res2 I9.below (by omega) _ _⟩)
 obtain⟨q0,q1,q2,q3,_⟩:=rr;clear s1 s2 s3 s4 I9 OB KC CS z2 J7 KB KO J5;go_wp2
 refine bodyPost_ret (v:=.agg #[.slice (some ⟨g5,0,none⟩) m5 cap5,.slice (some ⟨g7,0,none⟩) LN cap7]) (by simp[results,Tryz.results46,go_sem,y0,y1]) rfl ?_
 exact FIN.out
end Go.Proofs.YtdnacpbgodooaaaGreatDoor
namespace Go.Proofs.YtdnacpbgodooaaaGreatDoor
open Go.RowKit Go.Lib
def Z55 (A:Ar) (m n q P:Nat):Bool:=decide (10<m∨10<n∨many A<q+secs P)
theorem Z6L (a:Option Addr) (n c:Nat) (A:Ar) (x:Option Addr) (d:Nat) (x':Option Addr) (m d':Nat) (L:List Bk) (E:List En) (q P:Nat) (w:World) (H:Z5 w a n A) (hm:Z2 A=true) (HC:ZW w x (L.length+1) d x' m (L++[⟨q,P⟩],E)) (hq:q<=1000) (hP:P<=100000) (hL:L.length<=1000) (hmm:m<=1000):
  Calls Tryz.prog 47 #[.agg #[.slice a n c],.agg #[.slice x (L.length+1) d,.slice x' m d']] w fun e w'=>e=.returned (.bool (Z55 A m (L.length+1) q P))∧Below w.heap.size w w':=by
 obtain⟨rfl,b,o,h,rfl,HX⟩:=Z8 H hm;have h64:=((arMay_iff A).1 hm).2.2.2.1;have hp:many A=(h 0).p:=(HX.dv 0 (by omega)).sn.symm
 obtain⟨bb,oo,rfl,hbb,x0,x1⟩:=HC.B.c L.length (by omega)
 rw[show bk (L++[(⟨q,P⟩:Bk)]) L.length=⟨q,P⟩ from bk_end L _] at x0 x1;dsimp only at x0 x1;obtain⟨K,hK⟩:∃ K,L.length=K:=⟨_,rfl⟩;rw[hK] at x0 x1 hL ⊢;obtain⟨W,hW⟩:∃ W,W=(w.alloc (.cells #[.slice (some ⟨b,o,none⟩) 3 c] 26)).alloc (.cells #[.slice (some ⟨bb,oo,none⟩) (K+1) d,.slice x' m d'] 83):=⟨_,rfl⟩;have hB:Below w.heap.size w W:=by rw[hW]; go_grown
 have k1:Own W w.heap.size 26 [.slice (some ⟨b,o,none⟩) 3 c]:=by rw[hW]; exact (Own.made w 26 [.slice (some ⟨b,o,none⟩) 3 c]).alloc _
 have k2:Own W (w.heap.size+1) 83 [.slice (some ⟨bb,oo,none⟩) (K+1) d,.slice x' m d']:=by
  have:=Own.made (w.alloc (.cells #[.slice (some ⟨b,o,none⟩) 3 c] 26)) 83 [.slice (some ⟨bb,oo,none⟩) (K+1) d,.slice x' m d']
  rw[show (w.alloc (.cells #[.slice (some ⟨b,o,none⟩) 3 c] 26)).heap.size=w.heap.size+1 by simp] at this
  rw[hW]; exact this
 have CS:=hid (fun wx=>Wn P wx (by omega))
 have t0:=(HX.below hB).three.1.1;have y0:=(hB.cell (p:=⟨bb,oo+K*2,none⟩) hbb).trans x0;have y1:=(hB.cell (p:=⟨bb,oo+K*2+1,none⟩) hbb).trans x1;have c0:=k2.cell (i:=0) rfl;have c1:=k2.cell (i:=1) rfl;have a0:=k1.cell (i:=0) rfl;obtain⟨T,hT⟩:∃ T,T=Z55 A m (K+1) q P:=⟨_,rfl⟩;rw[<- hT];unfold Z55 at hT;rw[hp] at hT h64;have hS:secs P<=100000:=by unfold secs; omega
 have HT:=hid hT;have HB:=hid (And.intro hB (And.intro k1 k2));generalize secs P=S at CS HT hS;generalize (h 0).p=N at t0 HT h64;generalize (h 0).x=xx at t0;generalize (h 0).c=cc at t0;clear hT hp HX HC H hm hbb x0 x1 hB k1 k2 hK;go_enter Tryz.func47,Tryz.ntmps47
 go_upto_region 1 with fail
 rw[<- hW];clear hW;go_upto_region 2 with fail
 obtain⟨W2,hW2⟩:∃ W2,W2=W.alloc (.cells #[.int .i64 q,.int .i64 P] 100):=⟨_,rfl⟩;have b2:Below W.heap.size W W2:=by rw[hW2]; go_grown
 have k3:Own W2 W.heap.size 100 [.int .i64 q,.int .i64 P]:=by rw[hW2]; exact Own.made W _ _
 have tl:=YL t0;have t0':W2.cell? ⟨b,o,none⟩=some (.slice xx N cc):=(b2.cell (p:=⟨b,o,none⟩) tl).trans t0
 have l0:=k3.cell (i:=0) rfl;have l1:=k3.cell (i:=1) rfl;have HB2:=hid (And.intro (HB.out.1.trans (b2.mono HB.out.1.size)) (And.intro (HB.out.2.1.below' b2) (HB.out.2.2.below' b2)));rw[<- hW2];clear hW2 b2 k3 tl t0 HB c0 c1 a0 y0 y1;generalize W.heap.size=pb at l0 l1 ⊢;go_wp2_with fail
 go_quiet ((go_at_call 96; exact Calls.quiet_of_same (CS.out _)))
 all_goals
  have c0:=HB2.out.2.2.cell (i:=0) rfl;have c1:=HB2.out.2.2.cell (i:=1) rfl;have a0:=HB2.out.2.1.cell (i:=0) rfl;have G:=hid (fun k=>below_drewN HB2.out.1 k)
  clear HB2
  by_cases h1:10<m
  ·have h1':(10:Int)<m:=by omega
   have F:Hid (T=true):=by show _=_; rw[HT.out,decide_eq_true (.inl h1)]
   go_wp2
   go_ret
   exact⟨by rw[F.out]; rfl,G.out _⟩
  ·have h1':¬ (10:Int)<m:=by omega
   by_cases h2:10<K+1
   ·have h2':(10:Int)<(K:Int)+1:=by omega
    have F:Hid (T=true):=by show _=_; rw[HT.out,decide_eq_true (.inr (.inl h2))]
    go_wp2
    go_ret
    exact⟨by rw[F.out]; rfl,G.out _⟩
   ·have h2':¬ (10:Int)<(K:Int)+1:=by omega
    by_cases h3:N<q+S
    ·have h3':(N:Int)<(q:Int)+S:=by omega
     have F:Hid (T=true):=by show _=_; rw[HT.out,decide_eq_true (.inr (.inr h3))]
     go_wp2
     go_ret
     exact⟨by rw[F.out]; rfl,G.out _⟩
    ·have h3':¬ (N:Int)<(q:Int)+S:=by omega
     have F:Hid (T=false):=by show _=_; rw[HT.out,decide_eq_false (by omega)]
     go_wp2
     go_ret
     exact⟨by rw[F.out]; rfl,G.out _⟩
end Go.Proofs.YtdnacpbgodooaaaGreatDoor
