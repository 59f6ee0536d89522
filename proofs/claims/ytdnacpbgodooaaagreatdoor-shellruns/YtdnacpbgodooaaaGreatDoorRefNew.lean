import Derived.Test.YtdnacpbgodooaaaGreatDoorArcGN
import Derived.Test.YtdnacpbgodooaaaGreatDoorArrN
set_option maxHeartbeats 1600000
set_option maxRecDepth 4000
namespace Go.Proofs.YtdnacpbgodooaaaGreatDoor
open Go.RowKit Go.Lib
theorem Z8u (n:Int) (w:World) (h:¬ (16<=n∧n<=64∧n % 2=0)):
  Calls Tryz.prog 11 #[.int .i64 n] w (OutA w ([],2)):=by
 have HK:=hid (fun w' (g:Below w.heap.size w w')=>Zp (x:=2) g)
 have i1:=fun wx=>Zm n 16 64 wx
 by_cases h1:16<=n∧n<=64
 ·have h2:(n % 2==1)=true:=by rw[beq_iff_eq]; omega
  have h3:0<=n:=by omega
  rw[decide_eq_true h1] at i1;have HI:=hid i1;clear i1 h h1;go_enter Tryz.func11,Tryz.ntmps11
  go_wp2_with (go_at_call 28; refine (HI.out _).mono ?_; rintro _ w9 ⟨rfl,h9⟩; (have h8:=h9.symm); subst h8)
  refine bodyPost_ret (v:=.tuple #[.agg #[.slice none 0 0],.int .i64 2]) (by simp[results,Tryz.results11,go_sem]) rfl ?_
  exact HK.out _ (by go_grown)
 ·rw[decide_eq_false h1] at i1
  have HI:=hid i1;clear i1 h h1;go_enter Tryz.func11,Tryz.ntmps11
  go_wp2_with (go_at_call 28; refine (HI.out _).mono ?_; rintro _ w9 ⟨rfl,h9⟩; (have h8:=h9.symm); subst h8)
  refine bodyPost_ret (v:=.tuple #[.agg #[.slice none 0 0],.int .i64 2]) (by simp[results,Tryz.results11,go_sem]) rfl ?_
  exact HK.out _ (by go_grown)
theorem aof_ok (n:Nat) (w:World) (h0:16<=n) (h1:n<=64) (h2:n % 2=0):
  Calls Tryz.prog 11 #[.int .i64 n] w (OutA w ([(dvNew n 0).1,(dvNew n 0).1,(dvNew ((n:Int) / 2) 512).1],0)):=by
 obtain⟨W,hW⟩:∃ W,W=w.alloc (.cells #[.slice none 0 0] 26):=⟨_,rfl⟩;have hB:Below w.heap.size w W:=by rw[hW]; exact (Below.refl _ w).alloc (Nat.le_refl _) _
 have hz:W.heap.size=w.heap.size+1:=by rw[hW]; simp
 have c0:W.cell? ⟨w.heap.size,0,none⟩=some (.slice none 0 0):=by rw[hW]; simp
 have f0:W.frozen? ⟨w.heap.size,0,none⟩=false:=by rw[hW]; simp
 have i1:=fun wx=>Zm n 16 64 wx
 rw[decide_eq_true (show (16:Int)<=n∧(n:Int)<=64 by omega)] at i1
 have HI:=hid i1;have HP:=hid (And.intro hB (And.intro hz (And.intro c0 f0)));have e2:((n:Int) % 2==1)=false:=by rw[beq_eq_false_iff_ne]; omega
 have C1:=hid (fun wx=>Z7g n 0 wx)
 have C3:=hid (fun wx=>Z7g ((n:Int) / 2) 512 wx)
 generalize dvNew n 0=r0 at C1;generalize dvNew ((n:Int) / 2) 512=r2 at C3;clear i1 hB hz c0 f0 h2;go_enter Tryz.func11,Tryz.ntmps11
 go_upto_region 3 with (go_at_call 28; refine (HI.out _).mono ?_; rintro _ w9 ⟨rfl,h9⟩; (have h8:=h9.symm); subst h8)
 rw[<- hW];clear hW HI e2;go_wp2_with fail
 refine (C1.out _).mono ?_
 rintro _ v1 ⟨x1,n1,e1,y1,m1,f1,rfl,hX,_,g1⟩;go_upto_region 4 with fail
 obtain⟨W1,hW1,b1,bx1⟩:=boxedx (e:=e1) (e':=f1) hX;rw[<- hW1];have S1:=hid (And.intro (bel3 g1 b1) bx1);clear hW1 hX g1 b1 bx1;generalize v1.heap.size=p1 at S1 ⊢;go_wp2_with fail
 refine (C1.out _).mono ?_
 rintro _ v2 ⟨x2,n2,e2,y2,m2,f2,rfl,hX,_,g1⟩;go_upto_region 5 with fail
 obtain⟨W2,hW2,b1,bx1⟩:=boxedx (e:=e2) (e':=f2) hX;rw[<- hW2];have S2:=hid (And.intro (bel3 (bel3 S1.out.1 g1) b1) (And.intro ((S1.out.2.below g1).below b1) bx1));clear hW2 hX g1 b1 bx1 S1 C1;generalize v2.heap.size=p2 at S2 ⊢;go_wp2_with fail
 refine (C3.out _).mono ?_
 rintro _ v3 ⟨x3,n3,e3,y3,m3,f3,rfl,hX,_,g1⟩;go_upto_region 6 with fail
 obtain⟨W3,hW3,b1,bx1⟩:=boxedx (e:=e3) (e':=f3) hX;rw[<- hW3];have S3:=hid (And.intro (bel3 (bel3 S2.out.1 g1) b1) (And.intro ((S2.out.2.1.below g1).below b1) (And.intro ((S2.out.2.2.below g1).below b1) bx1)));clear hW3 hX g1 b1 bx1 S2 C3;generalize v3.heap.size=p3 at S3 ⊢;have q0:=S3.out.2.1.b.c0;have q1:=S3.out.2.1.b.c1;have q2:=S3.out.2.2.1.b.c0;have q3:=S3.out.2.2.1.b.c1;have q4:=S3.out.2.2.2.b.c0;have q5:=S3.out.2.2.2.b.c1;have hA:=Z2y W3 ⟨x1,n1,e1,y1,m1,f1⟩ ⟨x2,n2,e2,y2,m2,f2⟩ ⟨x3,n3,e3,y3,m3,f3⟩ r0.1 r0.1 r2.1 S3.out.2.1.d S3.out.2.2.1.d S3.out.2.2.2.d;obtain⟨X,hX⟩:∃ X,X=W3.alloc (.cells #[.slice x1 n1 e1,.slice y1 m1 f1,.slice x2 n2 e2,.slice y2 m2 f2,.slice x3 n3 e3,.slice y3 m3 f3] 56):=⟨_,rfl⟩;have hBX:Below W3.heap.size W3 X:=by rw[hX]; exact (Below.refl _ W3).alloc (Nat.le_refl _) _
 have hzW:w.heap.size<W3.heap.size:=by have:=S3.out.1.size; rw[HP.out.2.1] at this; omega
 have hBW:Below W.heap.size W X:=bel3 S3.out.1 hBX;have v0:=(hBW.cell (p:=⟨w.heap.size,0,none⟩) (by show w.heap.size<W.heap.size; rw[HP.out.2.1]; omega)).trans HP.out.2.2.1
 have x0:=(hBW.frozen (p:=⟨w.heap.size,0,none⟩) (by show w.heap.size<W.heap.size; rw[HP.out.2.1]; omega)).trans HP.out.2.2.2
 have y0:=World.cell?_setCell_same X ⟨w.heap.size,0,none⟩ (.slice (some ⟨W3.heap.size,0,none⟩) 3 3) v0
 have hA':=hA;rw[<- hX] at hA';have K:=hid (And.intro (hA'.box (p:=w.heap.size) (by omega) v0 (.slice (some ⟨W3.heap.size,0,none⟩) 3 3)) (And.intro (show w.heap.size<=W3.heap.size by omega) ((HP.out.1.trans (hBW.mono HP.out.1.size)).setCell (p:=⟨w.heap.size,0,none⟩) (Nat.le_refl _) (.slice (some ⟨W3.heap.size,0,none⟩) 3 3))))
 rw[hX] at v0 x0 y0 K;clear hA hA' hBX hBW hzW hX;go_wp2
 refine bodyPost_ret (v:=.tuple #[.agg #[.slice (some ⟨W3.heap.size,0,none⟩) 3 3],.int .i64 0]) (by simp[results,Tryz.results11,go_sem,y0]) rfl ?_
 exact⟨⟨_,3,3,rfl,.inr ⟨_,_,rfl,K.out.2.1,K.out.1⟩⟩,K.out.2.2⟩
theorem Z8v (n:Int) (w:World):Calls Tryz.prog 11 #[.int .i64 n] w (OutA w (arNew n)):=by
 unfold arNew
 by_cases h:16<=n∧n<=64∧n % 2=0
 ·rw[if_pos h]
  obtain⟨N,rfl⟩:∃ N:Nat,n=N:=⟨n.toNat,by omega⟩
  exact aof_ok N w (by omega) (by omega) (by omega)
 ·rw[if_neg h]
  exact Z8u n w h
end Go.Proofs.YtdnacpbgodooaaaGreatDoor
namespace Go.Proofs.YtdnacpbgodooaaaGreatDoor
open Go.RowKit Go.Lib
def OutF (w:World) (A:Ar) (e:Ending) (w':World):Prop:=
 ∃ b h,e=.returned (.tuple #[.agg #[.slice (some ⟨b,0,none⟩) 3 3],.int .i64 0])∧w.heap.size<=b∧Z4 w' b 0 3 h A∧(∀ i,i<3->Zj w.heap.size w' (h i).x (h i).y (dev A i))∧Below w.heap.size w w'
theorem Z8t (n:Nat) (w:World) (h0:16<=n) (h1:n<=64) (h2:n % 2=0):
  Calls Tryz.prog 11 #[.int .i64 n] w (OutF w [(dvNew n 0).1,(dvNew n 0).1,(dvNew ((n:Int) / 2) 512).1]):=by
 obtain⟨W,hW⟩:∃ W,W=w.alloc (.cells #[.slice none 0 0] 26):=⟨_,rfl⟩;have hB:Below w.heap.size w W:=by rw[hW]; exact (Below.refl _ w).alloc (Nat.le_refl _) _
 have hz:W.heap.size=w.heap.size+1:=by rw[hW]; simp
 have c0:W.cell? ⟨w.heap.size,0,none⟩=some (.slice none 0 0):=by rw[hW]; simp
 have f0:W.frozen? ⟨w.heap.size,0,none⟩=false:=by rw[hW]; simp
 have i1:=fun wx=>Zm n 16 64 wx
 rw[decide_eq_true (show (16:Int)<=n∧(n:Int)<=64 by omega)] at i1
 have HI:=hid i1;have HP:=hid (And.intro hB (And.intro hz (And.intro c0 f0)));have e2:((n:Int) % 2==1)=false:=by rw[beq_eq_false_iff_ne]; omega
 have C1:=hid (fun wx=>Z4y n 0 wx)
 have C3:=hid (fun wx=>Z4y ((n:Int) / 2) 512 wx)
 generalize dvNew n 0=r0 at C1;generalize dvNew ((n:Int) / 2) 512=r2 at C3;clear i1 hB hz c0 f0 h2;go_enter Tryz.func11,Tryz.ntmps11
 go_upto_region 3 with (go_at_call 28; refine (HI.out _).mono ?_; rintro _ w9 ⟨rfl,h9⟩; (have h8:=h9.symm); subst h8)
 rw[<- hW];clear hW HI e2;go_wp2_with fail
 refine (C1.out _).mono ?_
 rintro _ v1 ⟨x1,n1,e1,y1,m1,f1,rfl,hN,hl,_,g1⟩;have hX:=hN.at hl.1 hl.2.1 hl.2.2.1 hl.2.2.2;have HN1:=hid hN;clear hl hN;go_upto_region 4 with fail
 obtain⟨W1,hW1,b1,bx1⟩:=boxedx (e:=e1) (e':=f1) hX;rw[<- hW1];have S1:=hid (And.intro (bel3 g1 b1) bx1);have N1:=hid (HN1.out.below' b1);clear hW1 hX g1 b1 bx1 HN1;generalize v1.heap.size=p1 at S1 ⊢;go_wp2_with fail
 refine (C1.out _).mono ?_
 rintro _ v2 ⟨x2,n2,e2,y2,m2,f2,rfl,hN,hl,_,g1⟩;have hX:=hN.at hl.1 hl.2.1 hl.2.2.1 hl.2.2.2;have HN2:=hid hN;clear hl hN;go_upto_region 5 with fail
 obtain⟨W2,hW2,b1,bx1⟩:=boxedx (e:=e2) (e':=f2) hX;rw[<- hW2];have S2:=hid (And.intro (bel3 (bel3 S1.out.1 g1) b1) (And.intro ((S1.out.2.below g1).below b1) bx1));have N2:=hid (And.intro ((N1.out.below' g1).below' b1) ((HN2.out.below' b1).less S1.out.1.size));clear hW2 hX g1 b1 bx1 S1 C1 N1 HN2;generalize v2.heap.size=p2 at S2 ⊢;go_wp2_with fail
 refine (C3.out _).mono ?_
 rintro _ v3 ⟨x3,n3,e3,y3,m3,f3,rfl,hN,hl,_,g1⟩;have hX:=hN.at hl.1 hl.2.1 hl.2.2.1 hl.2.2.2;have HN3:=hid hN;clear hl hN;go_upto_region 6 with fail
 obtain⟨W3,hW3,b1,bx1⟩:=boxedx (e:=e3) (e':=f3) hX;rw[<- hW3];have S3:=hid (And.intro (bel3 (bel3 S2.out.1 g1) b1) (And.intro ((S2.out.2.1.below g1).below b1) (And.intro ((S2.out.2.2.below g1).below b1) bx1)));have N3:=hid (And.intro ((N2.out.1.below' g1).below' b1) (And.intro ((N2.out.2.below' g1).below' b1) ((HN3.out.below' b1).less S2.out.1.size)));clear hW3 hX g1 b1 bx1 S2 C3 N2 HN3;generalize v3.heap.size=p3 at S3 ⊢;have q0:=S3.out.2.1.b.c0;have q1:=S3.out.2.1.b.c1;have q2:=S3.out.2.2.1.b.c0;have q3:=S3.out.2.2.1.b.c1;have q4:=S3.out.2.2.2.b.c0;have q5:=S3.out.2.2.2.b.c1;have hA:=Z2y W3 ⟨x1,n1,e1,y1,m1,f1⟩ ⟨x2,n2,e2,y2,m2,f2⟩ ⟨x3,n3,e3,y3,m3,f3⟩ r0.1 r0.1 r2.1 S3.out.2.1.d S3.out.2.2.1.d S3.out.2.2.2.d;obtain⟨X,hX⟩:∃ X,X=W3.alloc (.cells #[.slice x1 n1 e1,.slice y1 m1 f1,.slice x2 n2 e2,.slice y2 m2 f2,.slice x3 n3 e3,.slice y3 m3 f3] 56):=⟨_,rfl⟩;have hBX:Below W3.heap.size W3 X:=by rw[hX]; exact (Below.refl _ W3).alloc (Nat.le_refl _) _
 have NX:∀ {x y:Option Addr} {D:Dv},Zj W.heap.size W3 x y D->Zj w.heap.size (X.setCell ⟨w.heap.size,0,none⟩ (.slice (some ⟨W3.heap.size,0,none⟩) 3 3)) x y D:=fun hd=>((hd.below' hBX).other (p:=⟨w.heap.size,0,none⟩) (by show w.heap.size<W.heap.size; rw[HP.out.2.1]; omega) _).less HP.out.1.size
 have NA:=hid (And.intro (NX N3.out.1) (And.intro (NX N3.out.2.1) (NX N3.out.2.2)));have hzW:w.heap.size<W3.heap.size:=by have:=S3.out.1.size; rw[HP.out.2.1] at this; omega
 have hBW:Below W.heap.size W X:=bel3 S3.out.1 hBX;have v0:=(hBW.cell (p:=⟨w.heap.size,0,none⟩) (by show w.heap.size<W.heap.size; rw[HP.out.2.1]; omega)).trans HP.out.2.2.1
 have x0:=(hBW.frozen (p:=⟨w.heap.size,0,none⟩) (by show w.heap.size<W.heap.size; rw[HP.out.2.1]; omega)).trans HP.out.2.2.2
 have y0:=World.cell?_setCell_same X ⟨w.heap.size,0,none⟩ (.slice (some ⟨W3.heap.size,0,none⟩) 3 3) v0
 have hA':=hA;rw[<- hX] at hA';have K:=hid (And.intro (hA'.box (p:=w.heap.size) (by omega) v0 (.slice (some ⟨W3.heap.size,0,none⟩) 3 3)) (And.intro (show w.heap.size<=W3.heap.size by omega) ((HP.out.1.trans (hBW.mono HP.out.1.size)).setCell (p:=⟨w.heap.size,0,none⟩) (Nat.le_refl _) (.slice (some ⟨W3.heap.size,0,none⟩) 3 3))))
 rw[hX] at v0 x0 y0 K NA;clear hA hA' hBX hBW hzW hX NX N3;go_wp2
 refine bodyPost_ret (v:=.tuple #[.agg #[.slice (some ⟨W3.heap.size,0,none⟩) 3 3],.int .i64 0]) (by simp[results,Tryz.results11,go_sem,y0]) rfl ?_
 refine⟨_,_,rfl,K.out.2.1,K.out.1,fun i hi=>?_,K.out.2.2⟩
 match i,hi with
 | 0,_=>exact NA.out.1
 | 1,_=>exact NA.out.2.1
 | 2,_=>exact NA.out.2.2
end Go.Proofs.YtdnacpbgodooaaaGreatDoor
namespace Go.Proofs.YtdnacpbgodooaaaGreatDoor
open Go.RowKit Go.Lib
theorem VW (w:World) (p q:Addr) (u v:Value) (h:p.block≠q.block):(w.setCell p u).setCell q v=(w.setCell q v).setCell p u:=by
 unfold World.setCell;simp only
 congr 1
 apply Array.ext
 ·simp
 ·intro i h1 h2
  simp only[Array.getElem_modify]
  by_cases e1:p.block=i
  ·have e2:¬ q.block=i:=fun e=>h (e1.trans e.symm)
   simp[e1,e2]
  ·simp[e1]
structure RqI (W3:World) (b3 K:Nat) (u:Hd) (D:Dv) (k:Nat) (W:World):Prop where
 ex:∃ V,W=(V.setCell ⟨b3,K*2,none⟩ (.slice u.x u.p u.c)).setCell ⟨b3,K*2+1,none⟩ (.slice u.y u.q u.d)∧Below W3.heap.size W3 V∧Zj W3.heap.size V u.x u.y (Xc D k)
theorem RqI.wr {w W3 W:World} {pr pc b3 c3 K k:Nat} {A:Ar} {u:Hd} {D:Dv} (H:RqI W3 b3 K u D k W) (S3:WrI w pr pc b3 c3 A W3) (hK:K<3) (hl:u.p=D.1.length∧u.q=D.2.length∧u.p<=maxLen∧u.q<=maxLen) (hk:k<=D.2.length):
  WrI w pr pc b3 c3 (A.set K (Xc D k)) W∧W.cell? ⟨b3,K*2+1,none⟩=some (.slice u.y u.q u.d):=by
 obtain⟨V,rfl,g,dn⟩:=H.ex;have S:=S3.to g;obtain⟨h,f⟩:=S.fr;have dA:=dn.at (n:=u.p) (m:=u.q) hl.1 (by rw[WL D k hk]; exact hl.2.1) hl.2.2.1 hl.2.2.2
 obtain⟨⟨_,z1,_⟩,z4,z5⟩:=f.store0 K hK u _ dA;refine⟨S.grown z5 ⟨_,z4⟩,World.cell?_setCell_same _ _ _ (u:=.slice (h K).y (h K).q (h K).d) ?_⟩
 rw[World.cell?_setCell_other _ _ _ _ (fun e=>by have:=congrArg Addr.off e; simp at this)]
 exact z1
theorem RqI.step {W3 W:World} {b3 K k:Nat} {u:Hd} {D:Dv} (H:RqI W3 b3 K u D k W) (hb:b3<W3.heap.size) (hk:k<D.2.length):
  ∃ q v,u.y=some ⟨q,0,none⟩∧W.cell? ⟨q,k,none⟩=some (.bool v)∧W.frozen? ⟨q,k,none⟩=false∧RqI W3 b3 K u D (k+1) (W.setCell ⟨q,k,none⟩ (.bool true)):=by
 obtain⟨V,rfl,g,dn⟩:=H.ex;have hk':k<(Xc D k).2.length:=by rw[WL D k (by omega)]; exact hk
 obtain⟨q,v,e,hq,_,c,f⟩:=dn.row hk';have hne:b3≠q:=by omega
 refine⟨q,v,e,?_,?_,⟨V.setCell ⟨q,k,none⟩ (.bool true),?_,g.setCell (p:=⟨q,k,none⟩) hq _,?_⟩⟩
 ·rw[World.cell?_setCell_other _ _ _ _ (fun e=>hne (congrArg Addr.block e)),World.cell?_setCell_other _ _ _ _ (fun e=>hne (congrArg Addr.block e))]
  exact c
 ·rw[World.frozen?_setCell,World.frozen?_setCell]; exact f
 ·rw[VW _ ⟨b3,K*2+1,none⟩ ⟨q,k,none⟩ _ _ hne,VW _ ⟨b3,K*2,none⟩ ⟨q,k,none⟩ _ _ hne]
 ·rw[<- VS D k hk]
  exact dn.lose e hk'
theorem Tj (a:Option Addr) (n c:Nat) (i:Int) (A:Ar) (w:World) (H:Z5 w a n A) (hm:Z2 A=false):
  Calls Tryz.prog 35 #[.agg #[.slice a n c],.int .i64 i] w (OutA w ([],9)):=by
 obtain⟨W,hW⟩:∃ W,W=(w.alloc (.cells #[.slice a n c] 26)).alloc (.cells #[.slice none 0 0] 26):=⟨_,rfl⟩;have hB:Below w.heap.size w W:=by rw[hW]; go_grown
 have hz:W.heap.size=w.heap.size+2:=by rw[hW]; simp
 have rc:W.cell? ⟨w.heap.size+1,0,none⟩=some (.slice none 0 0):=by rw[hW]; simp[go_sem]
 have rf:W.frozen? ⟨w.heap.size+1,0,none⟩=false:=by rw[hW]; simp[go_sem]
 have HT:=hid (Xz a n c A W (H.below hB));have HP:=hid (And.intro hB (And.intro hz (And.intro rc rf)));have HK:=hid (fun x w' (g:Below w.heap.size w w')=>Zp (x:=x) g)
 rw[hm,hW] at HT;have HE:=hid hW;clear hB hz rc rf H hW hm;go_enter Tryz.func35,Tryz.ntmps35
 go_wp2_with fail
 refine HT.out.mono ?_
 rintro _ w1 ⟨rfl,g1⟩;rw[<- HE.out] at g1;have r1:=(g1.cell (p:=⟨w.heap.size+1,0,none⟩) (by show w.heap.size+1<W.heap.size; rw[HP.out.2.1]; omega)).trans HP.out.2.2.1
 have r2:=(g1.frozen (p:=⟨w.heap.size+1,0,none⟩) (by show w.heap.size+1<W.heap.size; rw[HP.out.2.1]; omega)).trans HP.out.2.2.2
 have y0:=World.cell?_setCell_same w1 ⟨w.heap.size+1,0,none⟩ (.slice none 0 0) r1
 have G1:=hid ((bel3 HP.out.1 g1).setCell (p:=⟨w.heap.size+1,0,none⟩) (by show w.heap.size<=w.heap.size+1; omega) (.slice none 0 0))
 clear g1;go_wp2
 refine bodyPost_ret (v:=.tuple #[.agg #[.slice none 0 0],.int .i64 9]) (by simp[results,Tryz.results35,go_sem,y0]) rfl ?_
 exact HK.out _ _ G1.out
theorem Tk (a:Option Addr) (n c:Nat) (i:Int) (A:Ar) (w:World) (H:Z5 w a n A) (hm:Z2 A=true) (hi:i<0∨3<=i):
  Calls Tryz.prog 35 #[.agg #[.slice a n c],.int .i64 i] w (OutA w ([],2)):=by
 obtain⟨W,hW⟩:∃ W,W=(w.alloc (.cells #[.slice a n c] 26)).alloc (.cells #[.slice none 0 0] 26):=⟨_,rfl⟩;have hB:Below w.heap.size w W:=by rw[hW]; go_grown
 have hz:W.heap.size=w.heap.size+2:=by rw[hW]; simp
 have rc:W.cell? ⟨w.heap.size+1,0,none⟩=some (.slice none 0 0):=by rw[hW]; simp[go_sem]
 have rf:W.frozen? ⟨w.heap.size+1,0,none⟩=false:=by rw[hW]; simp[go_sem]
 have HT:=hid (Xz a n c A W (H.below hB));have HP:=hid (And.intro hB (And.intro hz (And.intro rc rf)));have HK:=hid (fun x w' (g:Below w.heap.size w w')=>Zp (x:=x) g)
 rw[hm,hW] at HT;have HE:=hid hW;clear hB hz rc rf H hW hm;have i1:=fun wx=>Zm i 0 2 wx
 rw[decide_eq_false (by omega)] at i1
 have HI:=hid i1;clear i1 hi;go_enter Tryz.func35,Tryz.ntmps35
 go_wp2_with fail
 refine HT.out.mono ?_
 rintro _ w1 ⟨rfl,g1⟩;rw[<- HE.out] at g1;have r1:=(g1.cell (p:=⟨w.heap.size+1,0,none⟩) (by show w.heap.size+1<W.heap.size; rw[HP.out.2.1]; omega)).trans HP.out.2.2.1
 have r2:=(g1.frozen (p:=⟨w.heap.size+1,0,none⟩) (by show w.heap.size+1<W.heap.size; rw[HP.out.2.1]; omega)).trans HP.out.2.2.2
 have y0:=World.cell?_setCell_same w1 ⟨w.heap.size+1,0,none⟩ (.slice none 0 0) r1
 have G1:=hid ((bel3 HP.out.1 g1).setCell (p:=⟨w.heap.size+1,0,none⟩) (by show w.heap.size<=w.heap.size+1; omega) (.slice none 0 0))
 clear g1;go_wp2_with (go_at_call 28; refine (HI.out _).mono ?_; rintro _ w9 ⟨rfl,h9⟩; (have h8:=h9.symm); subst h8)
 refine bodyPost_ret (v:=.tuple #[.agg #[.slice none 0 0],.int .i64 2]) (by simp[results,Tryz.results35,go_sem,y0]) rfl ?_
 exact HK.out _ _ G1.out
theorem Z0L (b o c:Nat) (h:Nat->Hd) (K:Nat) (A:Ar) (w:World) (H:Arr w b o 3 h A) (hm:Z2 A=true) (hk:K<3):
  Calls Tryz.prog 35 #[.agg #[.slice (some ⟨b,o,none⟩) 3 c],.int .i64 K] w (OutA w (A.set K (blank (dev (arNew (many A)).1 K)),0)):=by
 obtain⟨W,hW⟩:∃ W,W=(w.alloc (.cells #[.slice (some ⟨b,o,none⟩) 3 c] 26)).alloc (.cells #[.slice none 0 0] 26):=⟨_,rfl⟩;have hB:Below w.heap.size w W:=by rw[hW]; go_grown
 have hz:W.heap.size=w.heap.size+2:=by rw[hW]; simp
 have rc:W.cell? ⟨w.heap.size+1,0,none⟩=some (.slice none 0 0):=by rw[hW]; simp[go_sem]
 have rf:W.frozen? ⟨w.heap.size+1,0,none⟩=false:=by rw[hW]; simp[go_sem]
 have c0:W.cell? ⟨w.heap.size,0,none⟩=some (.slice (some ⟨b,o,none⟩) 3 c):=by rw[hW]; simp[go_sem]
 have hmm:=(arMay_iff A).1 hm;have HW:=H.below hB;have t0:=HW.three.1.1;have s0:many A=(h 0).p:=(HW.dv 0 (by omega)).sn.symm
 have nb:(h 0).p<=64:=by rw[<- s0]; exact hmm.2.2.2.1
 rw[s0];have HT:=hid (Xz (some ⟨b,o,none⟩) 3 c A W (.inr ⟨b,o,h,rfl,HW⟩));rw[hm,hW] at HT;have CC:=hid (fun wx (g:Below W.heap.size W wx)=>XR (some ⟨b,o,none⟩) 3 c A wx (.inr ⟨b,o,h,rfl,HW.below g⟩) (ZN A hm))
 have nb1:16<=(h 0).p:=by rw[<- s0]; exact hmm.2.2.1
 have ne2:(h 0).p % 2=0:=by rw[<- s0]; exact hmm.2.2.2.2.1
 have CD:=hid (fun wx=>Z8t (h 0).p wx nb1 nb ne2)
 rw[arNew,if_pos (by omega)]
 generalize ([(dvNew ((h 0).p:Int) 0).1,(dvNew ((h 0).p:Int) 0).1,(dvNew (((h 0).p:Int) / 2) 512).1]:Ar)=N at CD;generalize hDN:dev N K=D;have HDN:=hid hDN;clear hDN;have i1:=fun wx=>Zm (K:Int) 0 2 wx
 rw[decide_eq_true (by omega)] at i1
 have HI:=hid i1;have HP:=hid (And.intro hB (And.intro hz (And.intro c0 (And.intro rc (And.intro rf (And.intro t0 HW.lt))))));have HE:=hid hW;have k0:¬ (K:Int)<0:=by omega
 have k3:¬ (3:Int)<=K:=by omega
 have k4:(K:Int)<3:=by omega
 clear hB hz rc rf c0 H hW HW hm hmm s0 t0 nb1 ne2 i1;go_enter Tryz.func35,Tryz.ntmps35
 go_wp2_with fail
 refine HT.out.mono ?_
 rintro _ w1 ⟨rfl,g1⟩;rw[<- HE.out] at g1;have d0:=(g1.cell (p:=⟨w.heap.size,0,none⟩) (by show w.heap.size<W.heap.size; rw[HP.out.2.1]; omega)).trans HP.out.2.2.1
 have G1:=hid g1;clear g1 HT HE;go_wp2_with (go_at_call 28; refine (HI.out _).mono ?_; rintro _ w9 ⟨rfl,h9⟩; (have h8:=h9.symm); subst h8)
 refine (CC.out _ G1.out).mono ?_
 rintro _ w3 ⟨a3,c3,rfl,h3,g3⟩
 rcases h3 with ⟨h30,_⟩ | ⟨b3,hd3,rfl,hb3,hf3⟩
 ·omega
 have hst:=XJ (pr:=w.heap.size+1) (cc:=c3) HP.out.1 (by omega) (by rw[HP.out.2.1]; omega) HP.out.2.2.2.1 HP.out.2.2.2.2.1 (bel3 G1.out g3) (Nat.le_trans G1.out.size hb3) hf3
 have S3:=hid hst;go_upto_region 6 with fail
 obtain⟨W3,hW3⟩:∃ W3,W3=w3.alloc (.cells #[.slice (some ⟨b3,0,none⟩) 3 c3] 26):=⟨_,rfl⟩;have b3':Below w3.heap.size w3 W3:=by rw[hW3]; exact (Below.refl _ w3).alloc (Nat.le_refl _) _
 have G3:=bel3 (bel3 G1.out g3) b3';rw[<- hW3] at S3 ⊢;clear hW3 hst hf3 hb3 g3 d0 G1 CC b3' k0 k3;generalize w3.heap.size=pc at S3 ⊢;have d0:=(G3.cell (p:=⟨w.heap.size,0,none⟩) (by show w.heap.size<W.heap.size; rw[HP.out.2.1]; omega)).trans HP.out.2.2.1
 have d1:=(G3.cell (p:=⟨b,o,none⟩) HP.out.2.2.2.2.2.2).trans HP.out.2.2.2.2.2.1;clear G3;go_wp2_with fail
 refine (CD.out _).mono ?_
 rintro _ w4 ⟨bb,hh,rfl,hbb,hF,hN,g4⟩;clear d0 d1;go_upto_region 7 with fail
 obtain⟨W4,hW4⟩:∃ W4,W4=w4.alloc (.cells #[.slice (some ⟨bb,0,none⟩) 3 3] 26):=⟨_,rfl⟩;have b4:Below w4.heap.size w4 W4:=by rw[hW4]; exact (Below.refl _ w4).alloc (Nat.le_refl _) _
 have p0:W4.cell? ⟨w4.heap.size,0,none⟩=some (.slice (some ⟨bb,0,none⟩) 3 3):=by rw[hW4]; simp
 rw[<- hW4];have F4:=(hF.below b4).arr;have q0:=F4.c0 K hk;have q1:=F4.c1 K hk;rw[Nat.zero_add] at q0 q1;have G4:=hid (bel3 g4 b4);have N4:=(hN K hk).below' b4;have L4:=F4.dv K hk;rw[HDN.out] at N4 L4;have HL:=hid (And.intro L4.sn (And.intro L4.sm (And.intro L4.nb L4.mb)));generalize hh K=u at q0 q1 N4 HL L4;have HD:=hid N4;have mb:=HL.out.2.2.2;unfold maxLen at mb;clear hW4 hF hN g4 b4 F4 N4 L4 CD hbb;generalize w4.heap.size=pb at p0 ⊢;have S4:=S3.out.to G4.out;have cb:=S4.cb;obtain⟨h5,f5⟩:=S4.fr;have v0:=f5.arr.c0 K hk;have v1:=f5.arr.c1 K hk;rw[Nat.zero_add] at v0 v1;have v2:=f5.free (K*2);have v3:=f5.free (K*2+1);clear S4 f5;go_cut [] (fun wx=>RqI W3 b3 K u D 0 wx)
 case first=>
  go_region
  all_goals (go_wp2_with fail; go_meet)
  all_goals exact⟨_,rfl,G4.out.drew,by rw[VT]; exact HD.out.below' ((Below.refl _ W4).drew)⟩
 case rest=>
  have S5:=hid hcut;clear hcut G4 HD p0 q0 q1 cb v0 v1 v2 v3;have HB:=hid (show b3<W3.heap.size by obtain⟨_,f⟩:=S3.out.fr; exact f.arr.lt)
  go_wp2_with fail
  go_loopw [9] (fun i wr=>∃ k:Nat,k<=u.q∧i=.int .i64 k∧RqI W3 b3 K u D k wr) (fun i _=>u.q-(intOf i).toNat)
  case atStart=>exact⟨0,Nat.zero_le _,rfl,S5.out⟩
  case round=>
   obtain⟨k,hkm,rfl,hI⟩:=hrel;clear S5;obtain⟨S7,e1⟩:=hI.wr S3.out hk HL.out (by rw[<- HL.out.2.1]; exact hkm)
   have cb:=S7.cb
   by_cases hlt:k<u.q
   ·have hlt':(k:Int)<u.q:=by omega
    obtain⟨q,v,hy,q1,q2,hI'⟩:=hI.step HB.out (by rw[<- HL.out.2.1]; exact hlt)
    rw[hy] at e1;have HI:=hid hI';clear hI hI' S7 hy;go_wp2
    go_roundw
    case rel=>exact⟨k+1,by omega,by go_num,HI.out⟩
    case measure=>simp[intOf]; omega
   ·obtain rfl:k=u.q:=by omega
    have hnl:¬ (u.q:Int)<u.q:=by omega
    have m64:u.q=D.2.length:=HL.out.2.1;rw[m64,Us] at S7;have HS:=hid S7;have rc:=S7.rc;have rf:=S7.rf;have y0:=World.cell?_setCell_same _ ⟨w.heap.size+1,0,none⟩ (.slice (some ⟨b3,0,none⟩) 3 c3) rc
    clear S7 hI m64;go_wp2
    refine bodyPost_ret (v:=.tuple #[.agg #[.slice (some ⟨b3,0,none⟩) 3 c3],.int .i64 0]) (by simp[results,Tryz.results35,go_sem,y0]) rfl ?_
    exact HS.out.out
theorem Jx (a:Option Addr) (n c:Nat) (i:Int) (A:Ar) (w:World) (H:Z5 w a n A):
  Calls Tryz.prog 35 #[.agg #[.slice a n c],.int .i64 i] w (OutA w (arReplace A i)):=by
 unfold arReplace
 by_cases hm:Z2 A=true
 ·rw[if_pos hm]
  by_cases hi:0<=i∧i<=2
  ·rw[if_pos hi]
   obtain⟨K,rfl⟩:∃ K:Nat,i=K:=⟨i.toNat,by omega⟩
   obtain⟨rfl,b,o,h,rfl,HX⟩:=Z8 H hm;rw[show (K:Int).toNat=K by omega]
   exact Z0L b o c h K A w HX hm (by omega)
  ·rw[if_neg hi]
   exact Tk a n c i A w H hm (by omega)
 ·rw[if_neg hm]
  exact Tj a n c i A w H (by simpa using hm)
end Go.Proofs.YtdnacpbgodooaaaGreatDoor
namespace Go.Proofs.YtdnacpbgodooaaaGreatDoor
open Go.RowKit Go.Lib
section
variable {w W W':World} {po pr b b' n c1 m c2:Nat} {V V':List Value}
theorem RefI.to (h:RefI w po pr b b' n c1 m c2 V V' W) (g:Below W.heap.size W W'):RefI w po pr b b' n c1 m c2 V V' W':=
 ⟨h.o.below g,h.r.below g,h.s.below' g,h.l.below' g,h.below.trans (g.mono h.below.size),h.ge,h.ne⟩
theorem RefI.drew (h:RefI w po pr b b' n c1 m c2 V V' W):RefI w po pr b b' n c1 m c2 V V' W.drew:=h.to ((Below.refl _ W).drew)
end
theorem Qd (a:Option Addr) (n c:Nat) (a':Option Addr) (m c':Nat) (i place by_:Int) (D:Dv) (w:World) (h:Zc w a n a' m D):
  Calls Tryz.prog 34 #[.agg #[.slice a n c,.slice a' m c'],.int .i64 i,.int .i64 place,.int .i64 by_] w (OutE w (dvTurn D i place by_)):=by
 obtain⟨W,hW,hB,hz,bd,br⟩:=UH w (.slice a n c) (.slice a' m c');have hT:=Yr a n c a' m c' i D W (h.below hB);have HP:=hid (And.intro hW (And.intro hB (And.intro hz (And.intro bd br))));rw[hW] at hT
 by_cases ht:dvTouch D i=0
 ·obtain⟨hmay,h0,h1,h2,h64⟩:=ZM D i ht
  obtain⟨k,rfl⟩:∃ k:Nat,i=k:=⟨i.toNat,by omega⟩
  rw[ht] at hT;have HT:=hid hT;have HT:=hid hT;rw[dvTurn,Vu D k _ ht];have hto:(k:Int).toNat=k:=by omega
  rw[hto];have i1:=fun wx=>Zm place 0 29 wx
  have i2:=fun wx=>Zm by_ 0 255 wx
  by_cases h3:0<=place∧place<30∧0<=by_∧by_<=255
  ·rw[if_pos h3,if_pos rfl]
   rw[decide_eq_true (show 0<=place∧place<=29 by omega)] at i1
   rw[decide_eq_true (show 0<=by_∧by_<=255 by omega)] at i2
   have I1:=hid i1;have I2:=hid i2;obtain⟨pl,rfl⟩:∃ pl:Nat,place=pl:=⟨place.toNat,by omega⟩
   have htp:(pl:Int).toNat=pl:=by omega
   rw[htp];have hkn:k<n:=by rw[h.sn]; omega
   have hkm:k<m:=by rw[h.sm]; omega
   have hkn':(k:Int)<n:=by omega
   have hkm':(k:Int)<m:=by omega
   have n64:n<=64:=by rw[h.sn]; exact h64
   have m64:m<=64:=by rw[h.sm]; omega
   have HC:=hid (fun wx (g:Below W.heap.size W wx)=>Yy a n c a' m c' D wx ((h.below hB).below g) (by omega) (by omega))
   have HD:=hid h;have HK:=hid (And.intro hkn hkm);have hz30:=Yv D k hmay (by omega)
   obtain⟨q,o,rfl,hq,eq1⟩:=h.sector k hkn;have HQ:=hid (And.intro hq eq1);obtain⟨U,hU⟩:∃ U,U=str (upBy (sec D k).data.toList pl by_):=⟨_,rfl⟩;have HU:=hid hU;rw[<- hU];clear i1 i2 hT hW hB hz bd br h ht hmay h0 h1 h2 h64 hto htp hkn hkm n64 m64 hq eq1 hU;go_enter Tryz.func34,Tryz.ntmps34
   go_wp2_with fail
   refine HT.out.mono ?_
   rintro _ w1 ⟨rfl,g1⟩;rw[<- HP.out.1] at g1;have bd2:=HP.out.2.2.2.1.below g1;have d0:=bd2.c0;have d1:=bd2.c1;have G3:=hid g1;clear g1 bd2;go_wp2_with (first | (go_at_call_of 28 (Value.int IntKind.i64 29); refine (I1.out _).mono ?_; rintro _ w9 ⟨rfl,h9⟩; subst h9) | (go_at_call_of 28 (Value.int IntKind.i64 255); refine (I2.out _).mono ?_; rintro _ w9 ⟨rfl,h9⟩; subst h9))
   refine (HC.out _ G3.out).mono ?_
   rintro _ w3 ⟨ao,c1,ao',c2,rfl,hN,g4⟩;have g5:=G3.out.trans (g4.mono G3.out.size);obtain⟨b,b',rfl,rfl,hI⟩:=VD (w:=w) (W:=w3.alloc (.cells #[.slice ao n c1,.slice ao' m c2] 56)) (pr:=w.heap.size+1) hN (by have:=G3.out.size; rw[HP.out.2.2.1] at this; omega) (by omega) (HP.out.2.1.trans (g5.mono HP.out.2.1.size)) (HP.out.2.2.2.2.below g5) (by intro e; have:=HD.out.sn; rw[e] at this; have:=HK.out; simp at *; omega) (by intro e; have:=HD.out.sm; rw[e] at this; have:=HK.out; simp at *; omega) rfl
   have bd3:=(HP.out.2.2.2.1.below g5).below (w':=w3.alloc (.cells #[.slice (some ⟨b,0,none⟩) n c1,.slice (some ⟨b',0,none⟩) m c2] 56)) ((Below.refl _ w3).alloc (Nat.le_refl _) _);clear hN g4 g5 d0 d1;go_upto_region 7 with fail
   generalize w3.alloc (.cells #[.slice (some ⟨b,0,none⟩) n c1,.slice (some ⟨b',0,none⟩) m c2] 56)=W3 at hI bd3;generalize w3.heap.size=po at hI;have d0:=bd3.c0;have eq1:=(hI.below.cell (p:=⟨q,o+k,none⟩) HQ.out.1).trans HQ.out.2;have HI:=hid hI;clear hI bd3;obtain⟨s,hs⟩:∃ s,s=sec D k:=⟨_,rfl⟩;rw[<- hs] at eq1 hz30 HU;clear hs;obtain⟨l1,l2,l3,l4⟩:=h3;have hpl:pl<s.size:=by omega
   have l5:(pl:Int)<s.size:=by omega
   have l6:(pl:Int)<=s.size:=by omega
   have l7:(pl:Int)+1<=s.size:=by omega
   have bx:=s[pl].toNat_lt;have u1:IntKind.i64.wrap (s[pl].toNat:Int)=(s[pl].toNat:Int):=IntWalk.i64_in _ (by omega)
   have u2:IntKind.i64.wrap ((s[pl].toNat:Int)+by_)=(s[pl].toNat:Int)+by_:=IntWalk.i64_in _ (by omega)
   have u3:((s[pl].toNat:Int)+by_).tmod 256=((s[pl].toNat:Int)+by_) % 256:=Int.tmod_eq_emod_of_nonneg (by omega)
   have u4:IntKind.i64.wrap (((s[pl].toNat:Int)+by_) % 256)=((s[pl].toNat:Int)+by_) % 256:=IntWalk.i64_in _ (by omega)
   have u5:IntKind.u8.wrap (((s[pl].toNat:Int)+by_) % 256)=((s[pl].toNat:Int)+by_) % 256:=by rw[IntKind.wrap_u8]; omega
   have u6:IntKind.i64.wrap ((pl:Int)+1)=((pl+1:Nat):Int):=by rw[IntWalk.i64_in _ (by omega)]; omega
   have hup:s.extract 0 pl++str [byt (((s[pl].toNat:Int)+by_) % 256)]++s.extract (pl+1) s.size=U:=by
    rw[HU.out,ext_str,ext_str,str_app,str_app,upBy,XY s pl hpl]
    congr 1
    have hl:pl<s.data.toList.length:=by rw[ba_len]; exact hpl
    rw[cut,cut,List.drop_zero,List.take_of_length_le (show s.data.toList.length<=s.size by rw[ba_len]; exact Nat.le_refl _),List.set_eq_take_append_cons_drop,if_pos hl,List.append_assoc]
    rfl
   have z1:(s.extract 0 pl).size=pl:=by rw[Zh _ _ _ (by omega)]; omega
   have z2:(str [byt (((s[pl].toNat:Int)+by_) % 256)]).size=1:=rfl;have z3:(s.extract (pl+1) s.size).size=30-(pl+1):=by rw[Zh _ _ _ (Nat.le_refl _)]; omega
   have hcv:=Z2n (((s[pl].toNat:Int)+by_) % 256) (by omega) (by omega) (W3.alloc (.cells #[.int .u8 (((s[pl].toNat:Int)+by_) % 256)] 5)).drew W3.heap.size (by simp)
   have p0:=HI.out.o.c0;have p1:∃ x,W3.cell? ⟨b,k,none⟩=some x:=by
    obtain⟨x,hx⟩:∃ x,(D.1.map Value.string)[k]?=some x:=⟨_,List.getElem?_eq_getElem (by rw[List.length_map,<- HD.out.sn]; exact HK.out.1)⟩
    exact⟨x,HI.out.s.cell hx⟩
   obtain⟨x,p1⟩:=p1;have p2:=HI.out.s.free k;have hA:Below W3.heap.size W3 (W3.alloc (.cells #[.int .u8 (((s[pl].toNat:Int)+by_) % 256)] 5)):=(Below.refl _ W3).alloc (Nat.le_refl _) _;have p3:=(hA.cell (p:=⟨po,0,none⟩) HI.out.o.lt).trans p0;have p4:=(hA.cell (p:=⟨b,k,none⟩) HI.out.s.lt).trans p1;have p5:=(hA.frozen (p:=⟨b,k,none⟩) HI.out.s.lt).trans p2;have HA:=hid hA;clear hA hz30;go_upto_region 8 with fail
   go_region
   have hI5:=((HI.out.to HA.out).setS (k:=k) (by rw[List.length_map,<- HD.out.sn]; exact HK.out.1) (.string U)).drew
   have p6:=hI5.o.c0;have p7:=hI5.o.c1;have v0:=hI5.r.c0;have v1:=hI5.r.c1;have x0:=hI5.r.f0;have x1:=hI5.r.f1;have K:=hid (hI5.out (dvPut D k U (los D k)) (Wo D k U (los D k)).1 (by rw[dvPut,Z22 D k (by rw[<- HD.out.sm]; exact HK.out.2),List.set_getElem_self]) (by rw[(XM D k U (los D k)).1]; exact HD.out.sn) (by rw[(XM D k U (los D k)).2]; exact HD.out.sm) HD.out.nb HD.out.mb)
   obtain⟨y0,y1⟩:=Z6 (.slice (some ⟨b,0,none⟩) n c1) (.slice (some ⟨b',0,none⟩) m c2) v0 v1;clear p0 p1 p2 p3 p4 p5 hI5 eq1 d0 hcv hup;generalize ((W3.alloc (.cells #[.int .u8 (((s[pl].toNat:Int)+by_) % 256)] 5)).setCell ⟨b,k,none⟩ (.string U)).drew=W4 at p6 p7 v0 v1 x0 x1 K y0 y1 ⊢;go_wp2
   refine bodyPost_ret (v:=.tuple #[.agg #[.slice (some ⟨b,0,none⟩) n c1,.slice (some ⟨b',0,none⟩) m c2],.int .i64 0]) (by simp[results,Tryz.results34,go_sem,y0,y1]) rfl ?_
   exact K.out
  ·rw[if_neg h3,if_neg (by decide)]
   have HI:=hid (And.intro i1 i2);clear hT hW hB hz bd br h ht hmay h0 h1 h2 h64 hto i1 i2
   by_cases h4:0<=place∧place<=29
   ·have h5:¬ (0<=by_∧by_<=255):=by omega
    rw[decide_eq_true h4,decide_eq_false h5] at HI;clear h3 h4 h5;go_enter Tryz.func34,Tryz.ntmps34
    go_wp2_with fail
    refine HT.out.mono ?_
    rintro _ w1 ⟨rfl,g1⟩;rw[<- HP.out.1] at g1;have rb:=HP.out.2.2.2.2.below g1;have v0:=rb.c0;have v1:=rb.c1;have x0:=rb.f0;have x1:=rb.f1;obtain⟨y0,y1⟩:=Z6 (.slice none 0 0) (.slice none 0 0) v0 v1;have K:=hid (((HP.out.2.1.trans ((g1).mono HP.out.2.1.size)).setCell (p:=⟨w.heap.size+1,0,none⟩) (by show w.heap.size<=w.heap.size+1; omega) (.slice none 0 0)).setCell (p:=⟨w.heap.size+1,1,none⟩) (by show w.heap.size<=w.heap.size+1; omega) (.slice none 0 0))
    clear rb;go_wp2_with (first | (go_at_call_of 28 (Value.int IntKind.i64 29); refine (HI.out.1 _).mono ?_; rintro _ w9 ⟨rfl,h9⟩; subst h9) | (go_at_call_of 28 (Value.int IntKind.i64 255); refine (HI.out.2 _).mono ?_; rintro _ w9 ⟨rfl,h9⟩; subst h9))
    refine bodyPost_ret (v:=.tuple #[.agg #[.slice none 0 0,.slice none 0 0],.int .i64 2]) (by simp[results,Tryz.results34,go_sem,y0,y1]) rfl ?_
    exact⟨none,0,0,none,0,0,rfl,devAt_none _,fresh_none _,K.out⟩
   ·rw[decide_eq_false h4] at HI
    clear h3 h4;go_enter Tryz.func34,Tryz.ntmps34
    go_wp2_with fail
    refine HT.out.mono ?_
    rintro _ w1 ⟨rfl,g1⟩;rw[<- HP.out.1] at g1;have rb:=HP.out.2.2.2.2.below g1;have v0:=rb.c0;have v1:=rb.c1;have x0:=rb.f0;have x1:=rb.f1;obtain⟨y0,y1⟩:=Z6 (.slice none 0 0) (.slice none 0 0) v0 v1;have K:=hid (((HP.out.2.1.trans ((g1).mono HP.out.2.1.size)).setCell (p:=⟨w.heap.size+1,0,none⟩) (by show w.heap.size<=w.heap.size+1; omega) (.slice none 0 0)).setCell (p:=⟨w.heap.size+1,1,none⟩) (by show w.heap.size<=w.heap.size+1; omega) (.slice none 0 0))
    clear rb;go_wp2_with (go_at_call_of 28 (Value.int IntKind.i64 29); refine (HI.out.1 _).mono ?_; rintro _ w9 ⟨rfl,h9⟩; subst h9)
    refine bodyPost_ret (v:=.tuple #[.agg #[.slice none 0 0,.slice none 0 0],.int .i64 2]) (by simp[results,Tryz.results34,go_sem,y0,y1]) rfl ?_
    exact⟨none,0,0,none,0,0,rfl,devAt_none _,fresh_none _,K.out⟩
 ·rw[dvTurn,dvChange,if_neg ht]
  have HT:=hid hT;clear hT hW hB hz bd br h;generalize dvTouch D i=t at HT ht;have ht':(t != 0)=true:=bne_iff_ne.2 ht;have ht2:(t==0)=false:=beq_eq_false_iff_ne.2 ht;clear ht;go_enter Tryz.func34,Tryz.ntmps34
  go_wp2_with fail
  refine HT.out.mono ?_
  rintro _ w1 ⟨rfl,g1⟩;rw[<- HP.out.1] at g1;have rb:=HP.out.2.2.2.2.below g1;have v0:=rb.c0;have v1:=rb.c1;have x0:=rb.f0;have x1:=rb.f1;obtain⟨y0,y1⟩:=Z6 (.slice none 0 0) (.slice none 0 0) v0 v1;have K:=hid (((HP.out.2.1.trans ((g1).mono HP.out.2.1.size)).setCell (p:=⟨w.heap.size+1,0,none⟩) (by show w.heap.size<=w.heap.size+1; omega) (.slice none 0 0)).setCell (p:=⟨w.heap.size+1,1,none⟩) (by show w.heap.size<=w.heap.size+1; omega) (.slice none 0 0))
  clear rb;go_wp2
  refine bodyPost_ret (v:=.tuple #[.agg #[.slice none 0 0,.slice none 0 0],.int .i64 t]) (by simp[results,Tryz.results34,go_sem,y0,y1]) rfl ?_
  exact⟨none,0,0,none,0,0,rfl,devAt_none _,fresh_none _,K.out⟩
end Go.Proofs.YtdnacpbgodooaaaGreatDoor
