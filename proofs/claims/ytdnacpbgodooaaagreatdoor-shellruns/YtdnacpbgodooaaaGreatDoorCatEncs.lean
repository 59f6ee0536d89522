import Derived.Test.YtdnacpbgodooaaaGreatDoorCatChk
import Derived.Test.YtdnacpbgodooaaaGreatDoorCatMid
set_option maxHeartbeats 1600000
set_option maxRecDepth 4000
namespace Go.Proofs.YtdnacpbgodooaaaGreatDoor
open Go.RowKit Go.Lib
def OutB (base:Nat) (w:World) (O:List UInt8) (e:Ending) (w':World):Prop:=∃ g m cap,e=.returned (.slice (some ⟨g,0,none⟩) m cap)∧Zz w' base (.slice (some ⟨g,0,none⟩) m cap) O∧Below base w w'∧Keeps w w'
theorem Z3R (base:Nat) (ao:Option Addr) (m cap:Nat) (O:List UInt8) (n:Int) (w:World) (hown:Zz w base (.slice ao m cap) O) (hbase:base<=w.heap.size) (hO:O.length<=100000) (h0:0<=n) (h1:n<=65535):
  Calls Tryz.prog 152 #[.slice ao m cap,.int .i64 n] w fun e w'=>OutB base w (O++be2 n) e w':=by
 have HH:=hid (And.intro (ownsB_alloc hown (.cells #[.int .u8 (n / 256),.int .u8 (n % 256)] 5)) (Z12 w (n / 256) (n % 256) (by omega) (by omega) (by omega) (by omega) 5))
 have G0:=hid (And.intro ((Below.refl base w).alloc hbase (.cells #[.int .u8 (n / 256),.int .u8 (n % 256)] 5)) ((Keeps.refl w).alloc (.cells #[.int .u8 (n / 256),.int .u8 (n % 256)] 5)));clear hown;go_enter Tryz.func152,Tryz.ntmps152
 go_wp2_with (at_builtin; (refine Z9 _ rfl (.tmp 5) (.tmp 11) rfl base _ O rfl HH.out.1 ⟨w.heap.size,0,none⟩ 2 (be2 n) rfl HH.out.2 (by simp[be2]) (by simp[be2]; omega) (by simp; omega) ?_; intro g5 m5 cap5 w5 hm5 hg5 hown5 hgrow5; have H5:=hid (And.intro hown5 hgrow5); clear hown5 hgrow5))
 go_ret
 exact⟨g5,m5,cap5,rfl,H5.out.1,Xy HH.out.1 (Nat.le_refl _) (by simp; omega) G0.out.1 H5.out.2,G0.out.2.trans (We HH.out.1 H5.out.2)⟩
theorem Z1O (w:World) (base:Nat) (hb:base<=w.heap.size) (n:Int) (h0:0<=n) (h1:n<256):Zz (w.alloc (.cells #[.int .u8 n] 5)) base (.slice (some ⟨w.heap.size,0,none⟩) 1 1) [byt n]:=by
 refine⟨by simp[Za],.inr ⟨w.heap.size,1,#[.int .u8 n],rfl,hb,heap_alloc_new w _,by simp,by unfold maxLen; omega,rfl,?_⟩⟩
 rw[TQ n h0 h1]; rfl
structure EncI (w0:World) (base p:Nat) (t:TypeId) (V:List Value) (v:Value) (O:List UInt8) (w:World):Prop where
 own:Zz w base v O
 below:Below base w0 w
 box:Own w p t V
 kp:Keeps w0 w
section
variable {w0 w w':World} {base p:Nat} {t:TypeId} {V:List Value} {v:Value} {O:List UInt8}
theorem EncI.le (h:EncI w0 base p t V v O w) (hb:base<=w0.heap.size):base<=w.heap.size:=Nat.le_trans hb h.below.size
theorem EncI.alloc (h:EncI w0 base p t V v O w) (hb:base<=w0.heap.size) (o:Obj):EncI w0 base p t V v O (w.alloc o):=⟨ownsB_alloc h.own o,h.below.alloc (h.le hb) o,h.box.alloc o,h.kp.alloc o⟩
theorem EncI.grown (h:EncI w0 base p t V v O w) (hb:base<=w0.heap.size) (ht:t≠5) (hg:w.grownBy w' v.ownBlock) {v':Value} {O':List UInt8} (ho:Zz w' base v' O'):EncI w0 base p t V v' O' w':=
 ⟨ho,Xy h.own (Nat.le_refl _) (h.le hb) h.below hg,h.box.keeps (We h.own hg) ht,h.kp.trans (We h.own hg)⟩
theorem EncI.out (h:EncI w0 base p t V v O w) (ht:t≠5) {v':Value} {O':List UInt8} (ho:Zz w' base v' O') (hb:Below base w w') (hk:Keeps w w'):EncI w0 base p t V v' O' w':=
 ⟨ho,h.below.trans hb,h.box.keeps hk ht,h.kp.trans hk⟩
end
theorem Z5b (base:Nat) (ao:Option Addr) (m cap:Nat) (O:List UInt8) (x:En) (w:World) (hown:Zz w base (.slice ao m cap) O) (hbase:base<=w.heap.size) (hO:O.length<=10000) (hx:1<=x.s.size∧x.s.size<=8) (hb:0<=x.b∧x.b<256) (ha:0<=x.a∧x.a<=65535) (hn:0<=x.n∧x.n<256):
  Calls Tryz.prog 153 #[.slice ao m cap,.agg #[.string x.s,.int .i64 x.b,.int .i64 x.a,.int .i64 x.n]] w fun e w'=>OutB base w (O++encE x) e w':=by
 obtain⟨s,b,a,n⟩:=x;obtain⟨s1,s2⟩:=hx;obtain⟨b1,b2⟩:=hb;obtain⟨a1,a2⟩:=ha;obtain⟨n1,n2⟩:=hn;dsimp only at s1 s2 b1 b2 a1 a2 n1 n2;have s3:(s.size:Int)<=8:=by omega
 obtain⟨W,hW⟩:∃ W,W=w.alloc (.cells #[.string s,.int .i64 b,.int .i64 a,.int .i64 n] 95):=⟨_,rfl⟩;have I0:EncI w base w.heap.size 95 [.string s,.int .i64 b,.int .i64 a,.int .i64 n] (.slice ao m cap) O W:=by
  rw[hW]; exact⟨ownsB_alloc hown _,(Below.refl base w).alloc hbase _,Own.made w 95 [.string s,.int .i64 b,.int .i64 a,.int .i64 n],(Keeps.refl w).alloc _⟩
 have hz:W.heap.size=w.heap.size+1:=by rw[hW]; simp
 have I1:=I0.alloc hbase (.cells #[.int .u8 (s.size:Int)] 5);have N1:=Wb W (s.size:Int) (by omega) (by omega) 5
 rw[hz] at N1;have HE:Hid (encE ⟨s,b,a,n⟩=[byt s.size]++s.data.toList++[byt b]++be2 a++[byt n]):=by show _=_; simp[encE]
 have hsl:=ba_len s;have HSL:=hid hsl;have HI1:=hid I1;clear I0 I1 hown hsl hz;subst hW;go_enter Tryz.func153,Tryz.ntmps153
 go_upto_region 2 with (at_builtin; (refine Z9 _ rfl (.tmp 5) (.tmp 10) rfl base _ O rfl HI1.out.own ⟨w.heap.size+1,0,none⟩ 1 [byt s.size] rfl N1 (by simp) (by simp; omega) (by simp; omega) ?_; intro g5 m5 cap5 w5 hm5 hg5 hown5 hgrow5; have H5:=hid (HI1.out.grown hbase (by decide) hgrow5 hown5); clear hown5 hgrow5))
 have x0:=H5.out.box.cell (i:=0) rfl;go_upto_region 3 with (at_builtin; (refine ZL _ rfl (.tmp 12) (.tmp 14) rfl base _ (O++[byt s.size]) rfl H5.out.own s rfl (by omega) (by simp; omega) (H5.out.le hbase) ?_; intro g6 m6 cap6 w6 hm6 hg6 hown6 hgrow6; have H6:=hid (H5.out.grown hbase (by decide) hgrow6 hown6); clear hown6 hgrow6))
 clear x0;have x1:=H6.out.box.cell (i:=1) rfl;have N2:=Wb w6 b (by omega) (by omega) 5
 have HI6:=hid (H6.out.alloc hbase (.cells #[.int .u8 b] 5));have l6:(O++[byt s.size]++s.data.toList).length<=10009:=by simp; omega
 go_upto_region 4 with (at_builtin; (refine Z9 _ rfl (.tmp 16) (.tmp 20) rfl base _ (O++[byt s.size]++s.data.toList) rfl HI6.out.own ⟨w6.heap.size,0,none⟩ 1 [byt b] rfl N2 (by simp) (by simp only[List.length_singleton]; omega) (HI6.out.le hbase) ?_; intro g7 m7 cap7 w7 hm7 hg7 hown7 hgrow7; have H7:=hid (HI6.out.grown hbase (by decide) hgrow7 hown7); clear hown7 hgrow7))
 clear x1;have x2:=H7.out.box.cell (i:=2) rfl;have C2:=hid (Z3R base (some ⟨g7,0,none⟩) m7 cap7 (O++[byt s.size]++s.data.toList++[byt b]) a w7 H7.out.own (H7.out.le hbase) (by rw[List.length_append]; simp only[List.length_singleton]; omega) (by omega) (by omega))
 go_upto_region 5 with (go_at_call 152; refine C2.out.mono ?_; rintro _ w8 ⟨g8,m8,cap8,rfl,o8,b8,k8⟩; have H8:=hid (H7.out.out (by decide) o8 b8 k8); clear o8 b8 k8)
 clear x2;have x3:=H8.out.box.cell (i:=3) rfl;have N3:=Wb w8 n (by omega) (by omega) 5
 have HI8:=hid (H8.out.alloc hbase (.cells #[.int .u8 n] 5));have l8:(O++[byt s.size]++s.data.toList++[byt b]++be2 a).length<=10012:=by rw[List.length_append,List.length_append]; simp only[be2,List.length_cons,List.length_nil]; omega
 go_wp2_with (at_builtin; (refine Z9 _ rfl (.tmp 26) (.tmp 30) rfl base _ (O++[byt s.size]++s.data.toList++[byt b]++be2 a) rfl HI8.out.own ⟨w8.heap.size,0,none⟩ 1 [byt n] rfl N3 (by simp) (by simp only[List.length_singleton]; omega) (HI8.out.le hbase) ?_; intro g9 m9 cap9 w9 hm9 hg9 hown9 hgrow9; have H9:=hid (HI8.out.grown hbase (by decide) hgrow9 hown9); clear hown9 hgrow9))
 go_ret
 refine⟨g9,m9,cap9,rfl,?_,H9.out.below,H9.out.kp⟩
 rw[HE.out]
 have:=H9.out.own
 simp only[List.append_assoc] at this ⊢
 exact this
theorem VL (L:List Bk) (k:Nat) (h:k<L.length):Xr (L.take (k+1))=Xr (L.take k)++be2 (bk L k).n:=by
 rw[QK L k h]; simp[Xr]
theorem Vo (L:List Bk) (k:Nat) (h:k<=L.length):(Xr (L.take k)).length=2*k:=by
 induction k with
 | zero=>simp[Xr]
 | succ k ih=>
  rw[VL L k (by omega),List.length_append,ih (by omega)]
  rfl
theorem VK (E:List En) (k:Nat) (h:k<E.length):XO (E.take (k+1))=XO (E.take k)++encE (en E k):=by
 rw[en_take E k h]; simp[XO]
theorem Z07 (E:List En) (k:Nat) (h:k<=E.length) (hs:∀ j,j<k->(en E j).s.size<=8):(XO (E.take k)).length<=13*k:=by
 induction k with
 | zero=>simp[XO]
 | succ k ih=>
  rw[VK E k (by omega),List.length_append]
  have:=ih (by omega) (fun j hj=>hs j (by omega))
  have h8:=hs k (by omega)
  have:(encE (en E k)).length<=13:=by simp[encE,be2]; omega
  omega
theorem Z71 (a:Option Addr) (n c:Nat) (a':Option Addr) (m c':Nat) (C:Ct) (w:World) (H:ZW w a n c a' m C):
  Calls Tryz.prog 98 #[.agg #[.slice a n c,.slice a' m c']] w fun e w'=>e=.returned (.tuple #[.string (str (WK C).1),.int .i64 (WK C).2])∧Below w.heap.size w w':=by
 obtain⟨W,hW⟩:∃ W,W=w.alloc (.cells #[.slice a n c,.slice a' m c'] 83):=⟨_,rfl⟩;have hB:Below w.heap.size w W:=by rw[hW]; exact (Below.refl _ w).alloc (Nat.le_refl _) _
 have bd:Own W w.heap.size 83 [.slice a n c,.slice a' m c']:=by rw[hW]; exact Own.made w 83 [.slice a n c,.slice a' m c']
 have h1:=Ww a n c a' m c' C W (H.below hB);rw[hW] at h1;unfold WK
 by_cases e:catChk C=0
 ·rw[if_pos e]
  rw[e] at h1;obtain⟨t1,t2,t3,t4⟩:=Xg C e;have hn:=H.B.sn;have hm:=H.E.sn;rw[<- hn] at t1 t3 t4;rw[<- hm] at t2 t4;have HL:=hid (And.intro hn hm);have OKB:=hid (Wj C.1 n t3);have OKE:=hid (WJ C.2 n m t4);have n1:(n:Int)<=10:=by omega
  have m1:(m:Int)<=10:=by omega
  obtain⟨R,hR⟩:∃ R,R=encB C:=⟨_,rfl⟩;rw[<- hR];have HR:=hid hR;have HP:=hid (And.intro hB (And.intro bd (And.intro hW H)));have H1:=hid h1;clear hB bd h1 hW e hR t3 t4 H hn hm;go_enter Tryz.func98,Tryz.ntmps98
  go_wp2_with fail
  refine H1.out.mono ?_
  rintro _ w1 ⟨rfl,g1⟩;rw[<- HP.out.2.2.1] at g1;have bx:=HP.out.2.1.below' g1;have d0:=bx.cell (i:=0) rfl;have hz:w.heap.size<w1.heap.size:=bx.lt;have I0:EncI w w.heap.size w.heap.size 83 [.slice a n c,.slice a' m c'] (.slice (some ⟨w1.heap.size,0,none⟩) 1 1) [byt n] (w1.alloc (.cells #[.int .u8 (n:Int)] 5)):=
   ⟨Z1O w1 _ (by omega) (n:Int) (by omega) (by omega),(HP.out.1.trans (g1.mono HP.out.1.size)).alloc (by omega) _,bx.alloc _,(((YH HP.out.1).trans (YH g1)).alloc _)⟩
  have HI0:=hid I0;clear g1 H1 I0 bx;go_wp2_with fail
  clear d0 hz;go_loopw [5,23] (fun v i wr=>∃ k g q cap:Nat,k<=n∧i=.int .i64 k∧v=.slice (some ⟨g,0,none⟩) q cap∧Hid (EncI w w.heap.size w.heap.size 83 [.slice a n c,.slice a' m c'] (.slice (some ⟨g,0,none⟩) q cap) ([byt n]++Xr (C.1.take k)) wr)) (fun _ i _=>n-(RowKit.intOf i).toNat)
  case atStart=>exact⟨0,_,_,_,Nat.zero_le _,rfl,rfl,HI0⟩
  case round=>
   obtain⟨k,g,q,cap,hk,rfl,rfl,HI⟩:=hrel;clear HI0
   by_cases hlt:k<n
   ·have hlt':(k:Int)<n:=by omega
    obtain⟨b,o,rfl,hb,x0,x1⟩:=(HP.out.2.2.2.below HI.out.below).B.c k hlt;obtain⟨_,h2,_⟩:=(Xb C.1 k).1 (OKB.out k hlt);have HJ:=HI.out.alloc (Nat.le_refl _) (.cells #[.int .i64 (bk C.1 k).f,.int .i64 (bk C.1 k).n] 100);have C2:=hid (Z3R w.heap.size (some ⟨g,0,none⟩) q cap ([byt n]++Xr (C.1.take k)) (bk C.1 k).n _ HJ.own (HJ.le (Nat.le_refl _)) (by rw[List.length_append,Vo C.1 k (by rw[<- HL.out.1]; omega)]; simp only[List.length_singleton]; omega) (by omega) (by omega))
    have EN:=hid (VL C.1 k (by rw[<- HL.out.1]; exact hlt))
    have HJ':=hid HJ;clear HJ h2;generalize (bk C.1 k).f=f at x0 C2 HJ';generalize (bk C.1 k).n=y at x1 C2 HJ' EN;go_wp2_with (go_at_call 152; refine C2.out.mono ?_; rintro _ w8 ⟨g8,m8,cap8,rfl,o8,b8,k8⟩; have H8:=hid (HJ'.out.out (by decide) o8 b8 k8); clear o8 b8 k8)
    go_roundw
    case rel=>
     refine⟨k+1,g8,m8,cap8,by omega,by go_num,rfl,?_⟩
     rw[EN.out,<- List.append_assoc];exact H8
    case measure=>simp[RowKit.intOf]; omega
   ·obtain rfl:k=n:=by omega
    have hlt':¬ (k:Int)<k:=by omega
    have TK:=hid (show C.1.take k=C.1 by rw[HL.out.1,List.take_length])
    rw[TK.out] at HI;have LB:=Vo C.1 k (by rw[<- HL.out.1]; exact Nat.le_refl _)
    rw[TK.out] at LB;have d1:=HI.out.box.cell (i:=1) rfl;have N1:=Wb wr (m:Int) (by omega) (by omega) 5
    have HJ:=hid (HI.out.alloc (Nat.le_refl _) (.cells #[.int .u8 (m:Int)] 5));have lO:([byt k]++Xr C.1).length<=100:=by rw[List.length_append,LB]; simp only[List.length_singleton]; omega
    have HO:=hid (show R=[byt k]++Xr C.1++[byt m]++XO C.2 by rw[HR.out,encB,HL.out.1,HL.out.2])
    generalize [byt k]++Xr C.1=O1 at HI HJ lO HO;clear HR LB TK;go_wp2_with (at_builtin; (refine Z9 _ rfl (.tmp 32) (.tmp 37) rfl w.heap.size _ O1 rfl HJ.out.own ⟨wr.heap.size,0,none⟩ 1 [byt m] rfl N1 (by simp) (by simp only[List.length_singleton]; omega) (HJ.out.le (Nat.le_refl _)) ?_; intro g5 m5 cap5 w5 hm5 hg5 hown5 hgrow5; have H5:=hid (HJ.out.grown (Nat.le_refl _) (by decide) hgrow5 hown5); clear hown5 hgrow5; have d2:=H5.out.box.cell (i:=1) rfl))
    clear d1 d2 N1;go_loopw [5,42] (fun v i wr=>∃ j g q cap:Nat,j<=m∧i=.int .i64 j∧v=.slice (some ⟨g,0,none⟩) q cap∧Hid (EncI w w.heap.size w.heap.size 83 [.slice a k c,.slice a' m c'] (.slice (some ⟨g,0,none⟩) q cap) (O1++[byt m]++XO (C.2.take j)) wr)) (fun _ i _=>m-(RowKit.intOf i).toNat)
    case atStart=>
     refine⟨0,_,_,_,Nat.zero_le _,rfl,rfl,?_⟩
     rw[List.take_zero,show XO []=[] from rfl,List.append_nil];exact H5
    case round=>
     obtain⟨j,g,q,cap,hj,rfl,rfl,HI2⟩:=hrel;clear HI HJ H5 hlt'
     by_cases hlt:j<m
     ·have hlt':(j:Int)<m:=by omega
      obtain⟨b,o,rfl,hb,x0,x1,x2,x3⟩:=(HP.out.2.2.2.below HI2.out.below).E.c j hlt;obtain⟨p1,p2,p3,p4⟩:=(ZO _ _).1 (OKE.out j hlt);have p5:=Zs _ p1;have hls:=Z07 C.2 j (by rw[<- HL.out.2]; omega) (fun i hi=>(Zs _ ((ZO _ _).1 (OKE.out i (by omega))).1).2)
      have HJ:=HI2.out.alloc (Nat.le_refl _) (.cells #[.string (en C.2 j).s,.int .i64 (en C.2 j).b,.int .i64 (en C.2 j).a,.int .i64 (en C.2 j).n] 95);have C2:=hid (Z5b w.heap.size (some ⟨g,0,none⟩) q cap (O1++[byt m]++XO (C.2.take j)) (en C.2 j) _ HJ.own (HJ.le (Nat.le_refl _)) (by rw[List.length_append,List.length_append]; simp only[List.length_singleton]; omega) p5 (by omega) (by omega) (by omega))
      have EN:=hid (VK C.2 j (by rw[<- HL.out.2]; exact hlt))
      have HJ':=hid HJ;clear HJ p1 p2 p3 p4 p5 hls;generalize en C.2 j=x at x0 x1 x2 x3 C2 HJ' EN;go_wp2_with (go_at_call 153; refine C2.out.mono ?_; rintro _ w8 ⟨g8,m8,cap8,rfl,o8,b8,k8⟩; have H8:=hid (HJ'.out.out (by decide) o8 b8 k8); clear o8 b8 k8)
      go_roundw
      case rel=>
       refine⟨j+1,g8,m8,cap8,by omega,by go_num,rfl,?_⟩
       rw[EN.out,<- List.append_assoc];exact H8
      case measure=>simp[RowKit.intOf]; omega
     ·obtain rfl:j=m:=by omega
      have hlt':¬ (j:Int)<j:=by omega
      rw[show C.2.take j=C.2 by rw[HL.out.2,List.take_length]] at HI2
      have cv:=Wv HI2.out.own;rw[<- HO.out] at cv;go_wp2
      go_ret2
      exact⟨rfl,HI2.out.below⟩
 ·rw[if_neg e]
  generalize catChk C=T at h1 e;have e':(T != 0)=true:=by rw[bne_iff_ne]; exact e
  have HP:=hid (And.intro hB hW);have H1:=hid h1;clear hB bd H h1 hW e;go_enter Tryz.func98,Tryz.ntmps98
  go_wp2_with fail
  refine H1.out.mono ?_
  rintro e w1 ⟨rfl,g1⟩;rw[<- HP.out.2] at g1;go_wp2
  go_ret2
  exact⟨rfl,HP.out.1.trans (g1.mono HP.out.1.size)⟩
end Go.Proofs.YtdnacpbgodooaaaGreatDoor
namespace Go.Proofs.YtdnacpbgodooaaaGreatDoor
open Go.RowKit Go.Lib
theorem EncI.drew {w0 w:World} {base p:Nat} {t:TypeId} {V:List Value} {v:Value} {O:List UInt8} (h:EncI w0 base p t V v O w):EncI w0 base p t V v O w.drew:=⟨h.own,h.below.drew,h.box.drew,h.kp.drew⟩
theorem Z6s (w:World) (n m p q:Int) (hn:0<=n∧n<256) (hm:0<=m∧m<256) (hp:0<=p∧p<256) (hq:0<=q∧q<256) (t:TypeId):∀ j u,(Za [byt n,byt m,byt p,byt q])[j]?=some u->(w.alloc (.cells #[.int .u8 n,.int .u8 m,.int .u8 p,.int .u8 q] t)).cell? ((⟨w.heap.size,0,none⟩:Addr).add j)=some u:=by
 have e:Za [byt n,byt m,byt p,byt q]=[.int .u8 n,.int .u8 m,.int .u8 p,.int .u8 q]:=by simp[Za,byt_nat n hn.1 hn.2,byt_nat m hm.1 hm.2,byt_nat p hp.1 hp.2,byt_nat q hq.1 hq.2]
 rw[e];intro j u hj
 match j,hj with
 | 0,hj=>simp at hj; subst hj; simp[Addr.add]
 | 1,hj=>simp at hj; subst hj; simp[Addr.add]
 | 2,hj=>simp at hj; subst hj; simp[Addr.add]
 | 3,hj=>simp at hj; subst hj; simp[Addr.add]
 | j+4,hj=>simp at hj
theorem Z30 (a:Option Addr) (n c:Nat) (a':Option Addr) (m c':Nat) (C:Ct) (w:World) (H:ZW w a n c a' m C):
  Calls Tryz.prog 67 #[.agg #[.slice a n c,.slice a' m c']] w fun e w'=>e=.returned (.tuple #[.string (str (WK C).1),.int .i64 (WK C).2])∧Below w.heap.size w w':=by
 obtain⟨W,hW⟩:∃ W,W=w.alloc (.cells #[.slice a n c,.slice a' m c'] 83):=⟨_,rfl⟩;have hB:Below w.heap.size w W:=by rw[hW]; exact (Below.refl _ w).alloc (Nat.le_refl _) _
 have bd:Own W w.heap.size 83 [.slice a n c,.slice a' m c']:=by rw[hW]; exact Own.made w 83 [.slice a n c,.slice a' m c']
 have h1:=Vl a n c a' m c' C W (H.below hB);rw[hW] at h1;unfold WK
 by_cases e:catChk C=0
 ·rw[if_pos e]
  rw[e] at h1;obtain⟨t1,t2,t3,t4⟩:=Xg C e;have hn:=H.B.sn;have hm:=H.E.sn;rw[<- hn] at t1 t3 t4;rw[<- hm] at t2 t4;have HL:=hid (And.intro hn hm);have OKB:=hid (Wj C.1 n t3);have OKE:=hid (WJ C.2 n m t4);have n1:(n:Int)<=10:=by omega
  have m1:(m:Int)<=10:=by omega
  obtain⟨R,hR⟩:∃ R,R=encB C:=⟨_,rfl⟩;rw[<- hR];have HR:=hid hR;have HP:=hid (And.intro hB (And.intro bd (And.intro hW H)));have H1:=hid h1;clear hB bd h1 hW e hR t3 t4 H hn hm;go_enter Tryz.func67,Tryz.ntmps67
  go_wp2_with fail
  refine H1.out.mono ?_
  rintro _ w1 ⟨rfl,g1⟩;rw[<- HP.out.2.2.1] at g1;have bx:=HP.out.2.1.below' g1;have d0:=bx.cell (i:=0) rfl;have hz:w.heap.size<w1.heap.size:=bx.lt;have I0:EncI w w.heap.size w.heap.size 83 [.slice a n c,.slice a' m c'] (.slice (some ⟨w1.heap.size,0,none⟩) 1 1) [byt n] (w1.alloc (.cells #[.int .u8 (n:Int)] 5)):=
   ⟨Z1O w1 _ (by omega) (n:Int) (by omega) (by omega),(HP.out.1.trans (g1.mono HP.out.1.size)).alloc (by omega) _,bx.alloc _,(((YH HP.out.1).trans (YH g1)).alloc _)⟩
  have HI0:=hid I0;clear g1 H1 I0 bx;go_wp2_with fail
  clear d0 hz;go_loopw [5,6] (fun v i wr=>∃ k g q cap:Nat,k<=n∧i=.int .i64 k∧v=.slice (some ⟨g,0,none⟩) q cap∧Hid (EncI w w.heap.size w.heap.size 83 [.slice a n c,.slice a' m c'] (.slice (some ⟨g,0,none⟩) q cap) ([byt n]++Xr (C.1.take k)) wr)) (fun _ i _=>n-(RowKit.intOf i).toNat)
  case atStart=>exact⟨0,_,_,_,Nat.zero_le _,rfl,rfl,HI0⟩
  case round=>
   obtain⟨k,g,q,cap,hk,rfl,rfl,HI⟩:=hrel;clear HI0
   by_cases hlt:k<n
   ·have hlt':(k:Int)<n:=by omega
    obtain⟨b,o,rfl,hb,x0,x1⟩:=HP.out.2.2.2.B.c k hlt;obtain⟨_,h2,_⟩:=(Xb C.1 k).1 (OKB.out k hlt);have LZ:=hid (fun w' (g:Below w.heap.size w w')=>(g.cell (p:=⟨b,o+k*2+1,none⟩) hb).trans x1)
    have d0:=HI.out.box.cell (i:=0) rfl;have hz:w.heap.size<wr.heap.size:=HI.out.box.lt;have y1:=LZ.out _ HI.out.below;have hb2:b<wr.heap.size:=by omega
    have HJ:=hid (HI.out.alloc (Nat.le_refl _) (.cells #[.int .u8 ((bk C.1 k).n / 256),.int .u8 ((bk C.1 k).n % 256)] 5));have N2:=hid (Z12 wr ((bk C.1 k).n / 256) ((bk C.1 k).n % 256) (by omega) (by omega) (by omega) (by omega) 5)
    have lO:([byt n]++Xr (C.1.take k)).length<=100:=by rw[List.length_append,Vo C.1 k (by rw[<- HL.out.1]; omega)]; simp only[List.length_singleton]; omega
    have v1:IntKind.i64.wrap ((bk C.1 k).n.tdiv 256)=(bk C.1 k).n / 256:=by rw[Int.tdiv_eq_ediv_of_nonneg (by omega)]; exact IntWalk.i64_in _ (by omega)
    have v2:IntKind.u8.wrap ((bk C.1 k).n.tmod 256)=(bk C.1 k).n % 256:=by rw[Int.tmod_eq_emod_of_nonneg (by omega),IntKind.wrap_u8]; omega
    have v3:IntKind.u8.wrap ((bk C.1 k).n / 256)=(bk C.1 k).n / 256:=by rw[IntKind.wrap_u8]; omega
    have EN:=hid (VL C.1 k (by rw[<- HL.out.1]; exact hlt))
    clear x0 x1 h2 hb;generalize (bk C.1 k).n=y at y1 LZ HJ N2 v1 v2 v3 EN;obtain⟨O,hO⟩:∃ O,[byt n]++Xr (C.1.take k)=O:=⟨_,rfl⟩;rw[hO] at HI HJ lO;have HOO:=hid hO;clear hO;go_wp2_with fail
    go_region_held3 (fun w'=>w'.cell? ⟨w.heap.size,0,none⟩=some (.slice (some ⟨b,o,none⟩) n c)∧w'.cell? ⟨b,o+k*2+1,none⟩=some (.int .i64 y)) (go_keep) ((refine Jj (by rfl) _ _ (by rfl) w.heap.size _ O (by rfl) HJ.out.own ⟨wr.heap.size,0,none⟩ 2 (be2 y) (by rfl) N2.out (by simp[be2]) (by simp[be2]; omega) (HJ.out.le (Nat.le_refl _)) ?_; intro g8 m8 cap8 w8 hm8 hg8 hown8 hgrow8; (have H8:=hid (HJ.out.drew.grown (Nat.le_refl _) (by decide) hgrow8 hown8)); clear hown8 hgrow8; (have z0:=H8.out.box.cell (i:=0) rfl); (have z1:=LZ.out _ H8.out.below)))
    all_goals go_wp2
    go_roundw
    case rel=>
     refine⟨k+1,g8,m8,cap8,by omega,by go_num,rfl,?_⟩
     rw[EN.out,<- List.append_assoc,HOO.out];exact H8
    case measure=>simp[RowKit.intOf]; omega
   ·obtain rfl:k=n:=by omega
    have hlt':¬ (k:Int)<k:=by omega
    have TK:=hid (show C.1.take k=C.1 by rw[HL.out.1,List.take_length])
    rw[TK.out] at HI;have LB:=Vo C.1 k (by rw[<- HL.out.1]; exact Nat.le_refl _)
    rw[TK.out] at LB;have d0:=HI.out.box.cell (i:=0) rfl;have d1:=HI.out.box.cell (i:=1) rfl;have N1:=Wb wr (m:Int) (by omega) (by omega) 5
    have HJ:=hid (HI.out.alloc (Nat.le_refl _) (.cells #[.int .u8 (m:Int)] 5));have lO:([byt k]++Xr C.1).length<=100:=by rw[List.length_append,LB]; simp only[List.length_singleton]; omega
    have HO:=hid (show R=[byt k]++Xr C.1++[byt m]++XO C.2 by rw[HR.out,encB,HL.out.1,HL.out.2])
    generalize [byt k]++Xr C.1=O1 at HI HJ lO HO;clear HR LB TK;go_wp2_with (at_builtin; (refine Z9 _ rfl (.tmp 45) (.tmp 50) rfl w.heap.size _ O1 rfl HJ.out.own ⟨wr.heap.size,0,none⟩ 1 [byt m] rfl N1 (by simp) (by simp only[List.length_singleton]; omega) (HJ.out.le (Nat.le_refl _)) ?_; intro g5 m5 cap5 w5 hm5 hg5 hown5 hgrow5; have H5:=hid (HJ.out.grown (Nat.le_refl _) (by decide) hgrow5 hown5); clear hown5 hgrow5))
    clear d0 d1 N1;go_loopw [5,7] (fun v i wr=>∃ j g q cap:Nat,j<=m∧i=.int .i64 j∧v=.slice (some ⟨g,0,none⟩) q cap∧Hid (EncI w w.heap.size w.heap.size 83 [.slice a k c,.slice a' m c'] (.slice (some ⟨g,0,none⟩) q cap) (O1++[byt m]++XO (C.2.take j)) wr)) (fun _ i _=>m-(RowKit.intOf i).toNat)
    case atStart=>
     refine⟨0,_,_,_,Nat.zero_le _,rfl,rfl,?_⟩
     rw[List.take_zero,show XO []=[] from rfl,List.append_nil];exact H5
    case round=>
     obtain⟨j,g,q,cap,hj,rfl,rfl,HI2⟩:=hrel;clear HI HJ H5 hlt'
     by_cases hlt:j<m
     ·have hlt':(j:Int)<m:=by omega
      have d1:=HI2.out.box.cell (i:=1) rfl;obtain⟨b,o,rfl,hb,x0,x1,x2,x3⟩:=(HP.out.2.2.2.below HI2.out.below).E.c j hlt;obtain⟨p1,p2,p3,p4⟩:=(ZO _ _).1 (OKE.out j hlt);obtain⟨s1,s2⟩:=Zs _ p1;have hls:=Z07 C.2 j (by rw[<- HL.out.2]; omega) (fun i hi=>(Zs _ ((ZO _ _).1 (OKE.out i (by omega))).1).2)
      have lO2:(O1++[byt m]++XO (C.2.take j)).length<=1000:=by rw[List.length_append,List.length_append]; simp only[List.length_singleton]; omega
      obtain⟨O2,hO2⟩:∃ O2,O1++[byt m]++XO (C.2.take j)=O2:=⟨_,rfl⟩;rw[hO2] at HI2 lO2;have HO2:=hid hO2;have EN:=hid (VK C.2 j (by rw[<- HL.out.2]; exact hlt))
      have q1:0<=(en C.2 j).b∧(en C.2 j).b<256:=by omega
      have q2:0<=(en C.2 j).a∧(en C.2 j).a<=600:=p3;have q3:0<=(en C.2 j).n∧(en C.2 j).n<=200:=p4;have HEE:Hid (encE (en C.2 j)=[byt (en C.2 j).s.size]++(en C.2 j).s.data.toList++[byt (en C.2 j).b,byt ((en C.2 j).a / 256),byt ((en C.2 j).a % 256),byt (en C.2 j).n]):=by show _=_; simp[encE,be2]
      have hsl:=ba_len (en C.2 j).s;have HSL:=hid hsl;have s3:((en C.2 j).s.size:Int)<=8:=by omega
      have HC:=HI2.out.alloc (Nat.le_refl _) (.cells #[.string (en C.2 j).s,.int .i64 (en C.2 j).b,.int .i64 (en C.2 j).a,.int .i64 (en C.2 j).n] 95);have hz:w.heap.size<=(wr.alloc (.cells #[.string (en C.2 j).s,.int .i64 (en C.2 j).b,.int .i64 (en C.2 j).a,.int .i64 (en C.2 j).n] 95)).heap.size:=HC.le (Nat.le_refl _);have J0:EncI (wr.alloc (.cells #[.string (en C.2 j).s,.int .i64 (en C.2 j).b,.int .i64 (en C.2 j).a,.int .i64 (en C.2 j).n] 95)) w.heap.size wr.heap.size 95 [.string (en C.2 j).s,.int .i64 (en C.2 j).b,.int .i64 (en C.2 j).a,.int .i64 (en C.2 j).n] (.slice (some ⟨g,0,none⟩) q cap) O2 (wr.alloc (.cells #[.string (en C.2 j).s,.int .i64 (en C.2 j).b,.int .i64 (en C.2 j).a,.int .i64 (en C.2 j).n] 95)):=
       ⟨HC.own,Below.refl _ _,Own.made wr 95 [.string (en C.2 j).s,.int .i64 (en C.2 j).b,.int .i64 (en C.2 j).a,.int .i64 (en C.2 j).n],Keeps.refl _⟩
      have J1:=hid (J0.alloc hz (.cells #[.int .u8 ((en C.2 j).s.size:Int)] 5));have N1:=Wb (wr.alloc (.cells #[.string (en C.2 j).s,.int .i64 (en C.2 j).b,.int .i64 (en C.2 j).a,.int .i64 (en C.2 j).n] 95)) ((en C.2 j).s.size:Int) (by omega) (by omega) 5
      rw[show (wr.alloc (.cells #[.string (en C.2 j).s,.int .i64 (en C.2 j).b,.int .i64 (en C.2 j).a,.int .i64 (en C.2 j).n] 95)).heap.size=wr.heap.size+1 by simp] at N1
      have HCC:=hid (And.intro HC hz);clear HC hz J0 p1 p2 p3 p4 hls hsl hO2;generalize en C.2 j=x at x0 x1 x2 x3 s1 s2 s3 q1 q2 q3 HEE HSL HCC J1 N1 EN;obtain⟨xs,xb,xa,xn⟩:=x;dsimp only at x0 x1 x2 x3 s1 s2 s3 q1 q2 q3 HEE HSL HCC J1 N1;obtain⟨q10,q11⟩:=q1;obtain⟨q20,q21⟩:=q2;obtain⟨q30,q31⟩:=q3;go_upto_region 15 with (at_builtin; (refine Z9 _ rfl (.tmp 64) (.tmp 69) rfl w.heap.size _ O2 rfl J1.out.own ⟨wr.heap.size+1,0,none⟩ 1 [byt xs.size] rfl N1 (by simp) (by simp only[List.length_singleton]; omega) (J1.out.le HCC.out.2) ?_; intro g6 m6 cap6 w6 hm6 hg6 hown6 hgrow6; have H6:=hid (J1.out.grown HCC.out.2 (by decide) hgrow6 hown6); clear hown6 hgrow6))
      clear d1 x0 x1 x2 x3;have x0:=H6.out.box.cell (i:=0) rfl;go_upto_region 16 with (at_builtin; (refine ZL _ rfl (.tmp 71) (.tmp 73) rfl w.heap.size _ (O2++[byt xs.size]) rfl H6.out.own xs rfl (by omega) (by rw[List.length_append]; simp only[List.length_singleton]; omega) (H6.out.le HCC.out.2) ?_; intro g7 m7 cap7 w7 hm7 hg7 hown7 hgrow7; have H7:=hid (H6.out.grown HCC.out.2 (by decide) hgrow7 hown7); clear hown7 hgrow7))
      clear x0;have x1:=H7.out.box.cell (i:=1) rfl;have x2:=H7.out.box.cell (i:=2) rfl;have x3:=H7.out.box.cell (i:=3) rfl;have N4:=Z6s w7 xb (xa / 256) (xa % 256) xn ⟨q10,q11⟩ (by omega) (by omega) (by omega) 5
      have J7:=hid (H7.out.alloc HCC.out.2 (.cells #[.int .u8 xb,.int .u8 (xa / 256),.int .u8 (xa % 256),.int .u8 xn] 5));have l7:(O2++[byt xs.size]++xs.data.toList).length<=1020:=by rw[List.length_append,List.length_append,HSL.out]; simp only[List.length_singleton]; omega
      go_wp2_with (at_builtin; (refine Z9 _ rfl (.tmp 75) (.tmp 90) rfl w.heap.size _ (O2++[byt xs.size]++xs.data.toList) rfl J7.out.own ⟨w7.heap.size,0,none⟩ 4 [byt xb,byt (xa / 256),byt (xa % 256),byt xn] rfl N4 (by simp) (by simp only[List.length_cons,List.length_nil]; omega) (J7.out.le HCC.out.2) ?_; intro g8 m8 cap8 w8 hm8 hg8 hown8 hgrow8; have H8:=hid (J7.out.grown HCC.out.2 (by decide) hgrow8 hown8); clear hown8 hgrow8))
      go_roundw
      case rel=>
       refine⟨j+1,g8,m8,cap8,by omega,by go_num,rfl,?_⟩
       rw[EN.out,<- List.append_assoc,HO2.out,HEE.out]
       have:=HCC.out.1.out (by decide) H8.out.own H8.out.below H8.out.kp
       simp only[List.append_assoc] at this ⊢
       exact this
      case measure=>simp[RowKit.intOf]; omega
     ·obtain rfl:j=m:=by omega
      have hlt':¬ (j:Int)<j:=by omega
      rw[show C.2.take j=C.2 by rw[HL.out.2,List.take_length]] at HI2
      have d1:=HI2.out.box.cell (i:=1) rfl;have cv:=Wv HI2.out.own;rw[<- HO.out] at cv;go_wp2
      go_ret2
      exact⟨rfl,HI2.out.below⟩
 ·rw[if_neg e]
  generalize catChk C=T at h1 e;have e':(T != 0)=true:=by rw[bne_iff_ne]; exact e
  have HP:=hid (And.intro hB hW);have H1:=hid h1;clear hB bd H h1 hW e;go_enter Tryz.func67,Tryz.ntmps67
  go_wp2_with fail
  refine H1.out.mono ?_
  rintro e w1 ⟨rfl,g1⟩;rw[<- HP.out.2] at g1;go_wp2
  go_ret2
  exact⟨rfl,HP.out.1.trans (g1.mono HP.out.1.size)⟩
end Go.Proofs.YtdnacpbgodooaaaGreatDoor
