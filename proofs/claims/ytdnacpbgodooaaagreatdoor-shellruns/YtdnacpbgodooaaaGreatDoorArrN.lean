import Derived.Test.YtdnacpbgodooaaaGreatDoorArrA
set_option maxHeartbeats 1600000
set_option maxRecDepth 4000
namespace Go.Proofs.YtdnacpbgodooaaaGreatDoor
open Go.RowKit Go.Lib
def Xc (D:Dv) (k:Nat):Dv:=(D.1,List.replicate k true++D.2.drop k)
theorem VT (D:Dv):Xc D 0=D:=by simp[Xc]
theorem Us (D:Dv):Xc D D.2.length=blank D:=by simp[Xc,blank]
theorem WL (D:Dv) (k:Nat) (h:k<=D.2.length):(Xc D k).2.length=D.2.length:=by simp[Xc]; omega
theorem VS (D:Dv) (k:Nat) (h:k<D.2.length):((Xc D k).1,(Xc D k).2.set k true)=Xc D (k+1):=by
 unfold Xc;simp only
 rw[List.set_append_right _ _ (by simp),List.length_replicate,Nat.sub_self,List.drop_eq_getElem_cons h,List.set_cons_zero,List.replicate_succ',List.append_assoc]
 rfl
theorem Zj.lose {B:Nat} {w:World} {x y:Option Addr} {D:Dv} (h:Zj B w x y D) {q k:Nat} (hy:y=some ⟨q,0,none⟩) (hk:k<D.2.length):Zj B (w.setCell ⟨q,k,none⟩ (.bool true)) x y (D.1,D.2.set k true):=by
 have hne:D.2≠[]:=fun e=>by rw[e] at hk; exact absurd hk (Nat.not_lt_zero _)
 have hne':D.2.set k true≠[]:=fun e=>by have:=congrArg List.length e; simp at this; exact hne this
 refine⟨?_,?_,fun h1 h2=>h.apart h1 hne⟩
 ·by_cases h1:D.1=[]
  ·exact .inl h1
  ·rcases h.S with e | ⟨b,e,g,o⟩
   ·exact .inl e
   ·exact .inr ⟨b,e,g,o.other (p:=⟨q,k,none⟩) (h.apart h1 hne b q e hy) _⟩
 ·rcases h.L with e | ⟨b,e,g,o⟩
  ·exact absurd e hne
  ·obtain rfl:b=q:=by rw[hy] at e; cases e; rfl
   refine .inr ⟨b,e,g,?_⟩
   have:=o.set (i:=k) (by simpa using hk) (.bool true)
   rwa [<- List.map_set] at this
theorem Zj.row {B:Nat} {w:World} {x y:Option Addr} {D:Dv} (h:Zj B w x y D) {k:Nat} (hk:k<D.2.length):∃ q v,y=some ⟨q,0,none⟩∧B<=q∧q<w.heap.size∧w.cell? ⟨q,k,none⟩=some (.bool v)∧w.frozen? ⟨q,k,none⟩=false:=by
 rcases h.L with e | ⟨q,e,g,o⟩
 ·rw[e] at hk; exact absurd hk (Nat.not_lt_zero _)
 ·exact⟨q,D.2[k],e,g,o.lt,o.cell (by simp[hk]),o.free k⟩
structure BlI (W3:World) (px:Nat) (x:Option Addr) (n1 e1:Nat) (y:Option Addr) (m1 e2:Nat) (D:Dv) (k:Nat) (W:World):Prop where
 bx:Box2 W px (.slice x n1 e1) (.slice y m1 e2)
 dn:Zj W3.heap.size W x y (Xc D k)
 ap:∀ q,y=some ⟨q,0,none⟩->D.2≠[]->q≠px
 below:Below W3.heap.size W3 W
theorem BlI.step {W3 W:World} {px n1 e1 m1 e2 k:Nat} {x y:Option Addr} {D:Dv} (H:BlI W3 px x n1 e1 y m1 e2 D k W) (hk:k<D.2.length):
  ∃ q v,y=some ⟨q,0,none⟩∧W.cell? ⟨q,k,none⟩=some (.bool v)∧W.frozen? ⟨q,k,none⟩=false∧BlI W3 px x n1 e1 y m1 e2 D (k+1) (W.setCell ⟨q,k,none⟩ (.bool true)):=by
 have hk':k<(Xc D k).2.length:=by rw[WL D k (by omega)]; exact hk
 obtain⟨q,v,e,g,_,c,f⟩:=H.dn.row hk';have hne:D.2≠[]:=fun e=>by rw[e] at hk; exact absurd hk (Nat.not_lt_zero _)
 refine⟨q,v,e,c,f,H.bx.other (q:=⟨q,k,none⟩) (fun h=>H.ap q e hne h.symm) _,?_,H.ap,H.below.setCell (p:=⟨q,k,none⟩) g _⟩
 rw[<- VS D k hk];exact H.dn.lose e hk'
end Go.Proofs.YtdnacpbgodooaaaGreatDoor
namespace Go.Proofs.YtdnacpbgodooaaaGreatDoor
open Go.RowKit Go.Lib
theorem Ta (a:Option Addr) (n c:Nat) (i:Int) (A:Ar) (w:World) (H:Z5 w a n A) (hm:Z2 A=false):
  Calls Tryz.prog 25 #[.agg #[.slice a n c],.int .i64 i] w (OutA w ([],9)):=by
 obtain⟨W,hW⟩:∃ W,W=(w.alloc (.cells #[.slice a n c] 26)).alloc (.cells #[.slice none 0 0] 26):=⟨_,rfl⟩;have hB:Below w.heap.size w W:=by rw[hW]; go_grown
 have hz:W.heap.size=w.heap.size+2:=by rw[hW]; simp
 have rc:W.cell? ⟨w.heap.size+1,0,none⟩=some (.slice none 0 0):=by rw[hW]; simp[go_sem]
 have rf:W.frozen? ⟨w.heap.size+1,0,none⟩=false:=by rw[hW]; simp[go_sem]
 have HT:=hid (Xt a n c A W (H.below hB));have HP:=hid (And.intro hB (And.intro hz (And.intro rc rf)));have HK:=hid (fun x w' (g:Below w.heap.size w w')=>Zp (x:=x) g)
 rw[XE A hm,hW] at HT;have HE:=hid hW;clear hB hz rc rf H hW hm;go_enter Tryz.func25,Tryz.ntmps25
 go_wp2_with fail
 refine HT.out.mono ?_
 rintro _ w1 ⟨rfl,g1⟩;rw[<- HE.out] at g1;have r1:=(g1.cell (p:=⟨w.heap.size+1,0,none⟩) (by show w.heap.size+1<W.heap.size; rw[HP.out.2.1]; omega)).trans HP.out.2.2.1
 have r2:=(g1.frozen (p:=⟨w.heap.size+1,0,none⟩) (by show w.heap.size+1<W.heap.size; rw[HP.out.2.1]; omega)).trans HP.out.2.2.2
 have y0:=World.cell?_setCell_same w1 ⟨w.heap.size+1,0,none⟩ (.slice none 0 0) r1
 have G1:=hid ((bel3 HP.out.1 g1).setCell (p:=⟨w.heap.size+1,0,none⟩) (by show w.heap.size<=w.heap.size+1; omega) (.slice none 0 0))
 clear g1;go_wp2
 refine bodyPost_ret (v:=.tuple #[.agg #[.slice none 0 0],.int .i64 9]) (by simp[results,Tryz.results25,go_sem,y0]) rfl ?_
 exact HK.out _ _ G1.out
theorem Tb (a:Option Addr) (n c:Nat) (i:Int) (A:Ar) (w:World) (H:Z5 w a n A) (hm:Z2 A=true) (hi:i<0∨3<=i):
  Calls Tryz.prog 25 #[.agg #[.slice a n c],.int .i64 i] w (OutA w ([],2)):=by
 obtain⟨W,hW⟩:∃ W,W=(w.alloc (.cells #[.slice a n c] 26)).alloc (.cells #[.slice none 0 0] 26):=⟨_,rfl⟩;have hB:Below w.heap.size w W:=by rw[hW]; go_grown
 have hz:W.heap.size=w.heap.size+2:=by rw[hW]; simp
 have rc:W.cell? ⟨w.heap.size+1,0,none⟩=some (.slice none 0 0):=by rw[hW]; simp[go_sem]
 have rf:W.frozen? ⟨w.heap.size+1,0,none⟩=false:=by rw[hW]; simp[go_sem]
 have HT:=hid (Xt a n c A W (H.below hB));have HP:=hid (And.intro hB (And.intro hz (And.intro rc rf)));have HK:=hid (fun x w' (g:Below w.heap.size w w')=>Zp (x:=x) g)
 rw[XQ A hm,hW] at HT;have HE:=hid hW;clear hB hz rc rf H hW hm
 by_cases h0:i<0
 ·clear hi
  go_enter Tryz.func25,Tryz.ntmps25
  go_wp2_with fail
  refine HT.out.mono ?_
  rintro _ w1 ⟨rfl,g1⟩;rw[<- HE.out] at g1;have r1:=(g1.cell (p:=⟨w.heap.size+1,0,none⟩) (by show w.heap.size+1<W.heap.size; rw[HP.out.2.1]; omega)).trans HP.out.2.2.1
  have r2:=(g1.frozen (p:=⟨w.heap.size+1,0,none⟩) (by show w.heap.size+1<W.heap.size; rw[HP.out.2.1]; omega)).trans HP.out.2.2.2
  have y0:=World.cell?_setCell_same w1 ⟨w.heap.size+1,0,none⟩ (.slice none 0 0) r1
  have G1:=hid ((bel3 HP.out.1 g1).setCell (p:=⟨w.heap.size+1,0,none⟩) (by show w.heap.size<=w.heap.size+1; omega) (.slice none 0 0))
  clear g1;go_wp2
  refine bodyPost_ret (v:=.tuple #[.agg #[.slice none 0 0],.int .i64 2]) (by simp[results,Tryz.results25,go_sem,y0]) rfl ?_
  exact HK.out _ _ G1.out
 ·have h3:3<=i:=by omega
  clear hi;go_enter Tryz.func25,Tryz.ntmps25
  go_wp2_with fail
  refine HT.out.mono ?_
  rintro _ w1 ⟨rfl,g1⟩;rw[<- HE.out] at g1;have r1:=(g1.cell (p:=⟨w.heap.size+1,0,none⟩) (by show w.heap.size+1<W.heap.size; rw[HP.out.2.1]; omega)).trans HP.out.2.2.1
  have r2:=(g1.frozen (p:=⟨w.heap.size+1,0,none⟩) (by show w.heap.size+1<W.heap.size; rw[HP.out.2.1]; omega)).trans HP.out.2.2.2
  have y0:=World.cell?_setCell_same w1 ⟨w.heap.size+1,0,none⟩ (.slice none 0 0) r1
  have G1:=hid ((bel3 HP.out.1 g1).setCell (p:=⟨w.heap.size+1,0,none⟩) (by show w.heap.size<=w.heap.size+1; omega) (.slice none 0 0))
  clear g1;go_wp2
  refine bodyPost_ret (v:=.tuple #[.agg #[.slice none 0 0],.int .i64 2]) (by simp[results,Tryz.results25,go_sem,y0]) rfl ?_
  exact HK.out _ _ G1.out
theorem Z0i (b o c:Nat) (h:Nat->Hd) (K:Nat) (A:Ar) (w:World) (H:Arr w b o 3 h A) (hm:Z2 A=true) (hk:K<3):
  Calls Tryz.prog 25 #[.agg #[.slice (some ⟨b,o,none⟩) 3 c],.int .i64 K] w (OutA w (A.set K (blank (devNew K (many A))),0)):=by
 obtain⟨W,hW⟩:∃ W,W=(w.alloc (.cells #[.slice (some ⟨b,o,none⟩) 3 c] 26)).alloc (.cells #[.slice none 0 0] 26):=⟨_,rfl⟩;have hB:Below w.heap.size w W:=by rw[hW]; go_grown
 have hz:W.heap.size=w.heap.size+2:=by rw[hW]; simp
 have rc:W.cell? ⟨w.heap.size+1,0,none⟩=some (.slice none 0 0):=by rw[hW]; simp[go_sem]
 have rf:W.frozen? ⟨w.heap.size+1,0,none⟩=false:=by rw[hW]; simp[go_sem]
 have c0:W.cell? ⟨w.heap.size,0,none⟩=some (.slice (some ⟨b,o,none⟩) 3 c):=by rw[hW]; simp[go_sem]
 have hmm:=(arMay_iff A).1 hm;have HW:=H.below hB;have t0:=HW.three.1.1;have s0:many A=(h 0).p:=(HW.dv 0 (by omega)).sn.symm
 have nb:(h 0).p<=64:=by rw[<- s0]; exact hmm.2.2.2.1
 rw[s0];have HT:=hid (Xt (some ⟨b,o,none⟩) 3 c A W (.inr ⟨b,o,h,rfl,HW⟩));rw[XQ A hm,hW] at HT;have CC:=hid (fun wx (g:Below W.heap.size W wx)=>XI (some ⟨b,o,none⟩) 3 c A wx (.inr ⟨b,o,h,rfl,HW.below g⟩) (ZN A hm))
 have CD:=hid (fun wx=>Vc K (h 0).p wx nb)
 generalize devNew K (h 0).p=D at CD;have HP:=hid (And.intro hB (And.intro hz (And.intro c0 (And.intro rc (And.intro rf (And.intro t0 HW.lt))))));have HE:=hid hW;have k0:¬ (K:Int)<0:=by omega
 have k3:¬ (3:Int)<=K:=by omega
 have k4:(K:Int)<3:=by omega
 clear hB hz rc rf c0 H hW HW hm hmm s0 t0;go_enter Tryz.func25,Tryz.ntmps25
 go_wp2_with fail
 refine HT.out.mono ?_
 rintro _ w1 ⟨rfl,g1⟩;rw[<- HE.out] at g1;have d0:=(g1.cell (p:=⟨w.heap.size,0,none⟩) (by show w.heap.size<W.heap.size; rw[HP.out.2.1]; omega)).trans HP.out.2.2.1
 have G1:=hid g1;clear g1 HT HE;go_wp2_with fail
 refine (CC.out _ G1.out).mono ?_
 rintro _ w3 ⟨a3,c3,rfl,h3,g3⟩
 rcases h3 with ⟨h30,_⟩ | ⟨b3,hd3,rfl,hb3,hf3⟩
 ·omega
 have hst:=XJ (pr:=w.heap.size+1) (cc:=c3) HP.out.1 (by omega) (by rw[HP.out.2.1]; omega) HP.out.2.2.2.1 HP.out.2.2.2.2.1 (bel3 G1.out g3) (Nat.le_trans G1.out.size hb3) hf3
 have S3:=hid hst;go_upto_region 7 with fail
 obtain⟨W3,hW3⟩:∃ W3,W3=w3.alloc (.cells #[.slice (some ⟨b3,0,none⟩) 3 c3] 26):=⟨_,rfl⟩;have b3':Below w3.heap.size w3 W3:=by rw[hW3]; exact (Below.refl _ w3).alloc (Nat.le_refl _) _
 have G3:=bel3 (bel3 G1.out g3) b3';rw[<- hW3] at S3 ⊢;clear hW3 hst hf3 hb3 g3 d0 G1 CC b3' k0 k3;generalize w3.heap.size=pc at S3 ⊢;have d0:=(G3.cell (p:=⟨w.heap.size,0,none⟩) (by show w.heap.size<W.heap.size; rw[HP.out.2.1]; omega)).trans HP.out.2.2.1
 have d1:=(G3.cell (p:=⟨b,o,none⟩) HP.out.2.2.2.2.2.2).trans HP.out.2.2.2.2.2.1;clear G3;go_wp2_with fail
 refine (CD.out _).mono ?_
 rintro _ w4 ⟨x,n1,e1,y,m1,e2,rfl,hN,hl,g4⟩;have HL:=hid hl;clear d0 d1 hl;go_upto_region 8 with fail
 obtain⟨W4,hW4⟩:∃ W4,W4=w4.alloc (.cells #[.slice x n1 e1,.slice y m1 e2] 56):=⟨_,rfl⟩;have b4:Below w4.heap.size w4 W4:=by rw[hW4]; exact (Below.refl _ w4).alloc (Nat.le_refl _) _
 have HI0:BlI W3 w4.heap.size x n1 e1 y m1 e2 D 0 W4:=by
  refine⟨by rw[hW4]; exact box2_of (Own.made w4 56 [.slice x n1 e1,.slice y m1 e2]),by rw[VT]; exact hN.below' b4,fun q hq hne=>?_,bel3 g4 b4⟩
  rcases hN.L with e | ⟨q',e,_,oo⟩
  ·exact absurd e hne
  ·rw[hq] at e; cases e
   exact Nat.ne_of_lt oo.lt
 rw[<- hW4];have S4:=hid HI0;have mb:=HL.out.2.2.2;unfold maxLen at mb;clear hW4 hN g4 b4 HI0 CD;generalize w4.heap.size=px at S4 ⊢;have e0:=S4.out.bx.c1;go_wp2_with fail
 clear e0;go_loopw [36] (fun i wr=>∃ k:Nat,k<=m1∧i=.int .i64 k∧BlI W3 px x n1 e1 y m1 e2 D k wr) (fun i _=>m1-(intOf i).toNat)
 case atStart=>exact⟨0,Nat.zero_le _,rfl,S4.out⟩
 case round=>
  obtain⟨k,hkm,rfl,hI⟩:=hrel;clear S4
  by_cases hlt:k<m1
  ·have hlt':(k:Int)<m1:=by omega
   obtain⟨q,v,rfl,q1,q2,hI'⟩:=hI.step (by rw[<- HL.out.2.1]; exact hlt)
   have e0:=hI.bx.c1;have HI:=hid hI';clear hI hI';go_wp2
   go_roundw
   case rel=>exact⟨k+1,by omega,by go_num,HI.out⟩
   case measure=>simp[intOf]; omega
  ·obtain rfl:k=m1:=by omega
   have hnl:¬ (k:Int)<k:=by omega
   have dn:=hI.dn;have m64:k=D.2.length:=HL.out.2.1;rw[m64,Us] at dn;have bn:(blank D).2.length=D.2.length:=by simp[blank]
   have dA:=dn.at (n:=n1) (m:=k) HL.out.1 (by rw[bn]; exact m64) HL.out.2.2.1 HL.out.2.2.2
   have S5:=S3.out.to hI.below;obtain⟨h5,f5⟩:=S5.fr;have Z:=f5.store0 K hk ⟨x,n1,e1,y,k,e2⟩ _ dA;have z0:=Z.1.1;have z1:=Z.1.2.1;have z2:=Z.1.2.2.1;have z3:=Z.1.2.2.2;have S7:=hid (S5.grown Z.2.2 ⟨_,Z.2.1⟩);have cb:=S5.cb;have x0:=hI.bx.c0;have x1:=hI.bx.c1;have cb7:=S7.out.cb;have rc:=S7.out.rc;have rf:=S7.out.rf;have y0:=World.cell?_setCell_same _ ⟨w.heap.size+1,0,none⟩ (.slice (some ⟨b3,0,none⟩) 3 c3) rc
   clear dn dA S5 f5 Z hI bn S3 m64;go_wp2
   refine bodyPost_ret (v:=.tuple #[.agg #[.slice (some ⟨b3,0,none⟩) 3 c3],.int .i64 0]) (by simp[results,Tryz.results25,go_sem,y0]) rfl ?_
   exact S7.out.out
theorem Z6t (K M:Nat) (hk:K<3) (h:16<=M∧M<=64∧M % 2=0):dev (arNew M).1 K=devNew K M:=by
 rw[TR M h]
 match K,hk with
 | 0,_=>rfl
 | 1,_=>rfl
 | 2,_=>rfl
theorem QO (a:Option Addr) (n c:Nat) (i:Int) (A:Ar) (w:World) (H:Z5 w a n A):
  Calls Tryz.prog 25 #[.agg #[.slice a n c],.int .i64 i] w (OutA w (arReplace A i)):=by
 unfold arReplace
 by_cases hm:Z2 A=true
 ·rw[if_pos hm]
  by_cases hi:0<=i∧i<=2
  ·rw[if_pos hi]
   obtain⟨K,rfl⟩:∃ K:Nat,i=K:=⟨i.toNat,by omega⟩
   obtain⟨rfl,b,o,h,rfl,HX⟩:=Z8 H hm;have hmm:=(arMay_iff A).1 hm;rw[show (K:Int).toNat=K by omega,Z6t K (many A) (by omega) ⟨hmm.2.2.1,hmm.2.2.2.1,hmm.2.2.2.2.1⟩]
   exact Z0i b o c h K A w HX hm (by omega)
  ·rw[if_neg hi]
   exact Tb a n c i A w H hm (by omega)
 ·rw[if_neg hm]
  exact Ta a n c i A w H (by simpa using hm)
end Go.Proofs.YtdnacpbgodooaaaGreatDoor
