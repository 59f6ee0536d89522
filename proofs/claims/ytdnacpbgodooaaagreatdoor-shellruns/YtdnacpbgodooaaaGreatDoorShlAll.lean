import Derived.Test.YtdnacpbgodooaaaGreatDoorArrN
import Derived.Test.YtdnacpbgodooaaaGreatDoorShlMem
import Derived.Test.YtdnacpbgodooaaaGreatDoorScrubStep
import Derived.Test.YtdnacpbgodooaaaGreatDoorArcAdds
import Derived.Test.YtdnacpbgodooaaaGreatDoorArcGN
set_option maxHeartbeats 3200000
set_option maxRecDepth 8000
namespace Go.Proofs.YtdnacpbgodooaaaGreatDoor
open Go.RowKit Go.Lib
theorem Z45 (a:Option Addr) (n c:Nat) (a':Option Addr) (m c':Nat) (px:Nat) (i:Int) (D:Dv) (w:World) (h:Zc w a n a' m D) (hx:w.cell? ⟨px,4,none⟩=some (.int .i64 i)) (hlt:px<w.heap.size):
  Calls Tryz.prog 21 #[.agg #[.slice a n c,.slice a' m c'],.pointer (some ⟨px,0,none⟩)] w (OutE w (dvLose D i)):=by
 obtain⟨W,hW⟩:∃ W,W=(w.alloc (.cells #[.slice a n c,.slice a' m c'] 56)).alloc (.cells #[.slice none 0 0,.slice none 0 0] 56):=⟨_,rfl⟩;have hB:Below w.heap.size w W:=by rw[hW]; go_grown
 have hz:W.heap.size=w.heap.size+2:=by rw[hW]; simp
 have rb:Box2 W (w.heap.size+1) (.slice none 0 0) (.slice none 0 0):=by rw[hW]; exact⟨by simp[go_sem],by simp[go_sem],by simp[go_sem],by simp[go_sem],by simp⟩
 have db:Box2 W w.heap.size (.slice a n c) (.slice a' m c'):=by rw[hW]; exact⟨by simp[go_sem],by simp[go_sem],by simp[go_sem],by simp[go_sem],by simp; omega⟩
 have hC:=Z21 a n c a' m c' i D W (h.below hB);generalize dvLose D i=r at hC;have c4:=(hB.cell (p:=⟨px,4,none⟩) hlt).trans hx;have e0:=db.c0;have e1:=db.c1;have HE:=hid hW;have HC:=hid hC;have HP:=hid (And.intro hB (And.intro hz rb));clear hC hB hz rb db h hx hlt;go_enter Tryz.func21,Tryz.ntmps21
 go_upto_region 1 with fail
 rw[<- hW];clear hW;go_wp2_with fail
 refine HC.out.mono ?_
 rintro _ w1 ⟨b,n1,c1,b',m1,c2,rfl,hD,hF,g1⟩;have rb1:=HP.out.2.2.below g1;have v0:=rb1.c0;have v1:=rb1.c1;have x0:=rb1.f0;have x1:=rb1.f1;obtain⟨y0,y1⟩:=Z6 (.slice b n1 c1) (.slice b' m1 c2) v0 v1;have K:=hid (W7 (p:=w.heap.size+1) (c:=c1) (c':=c2) hD hF (HP.out.1.trans (g1.mono HP.out.1.size)) (by omega) (by rw[HP.out.2.1]; omega) HP.out.1.size)
 clear hD hF g1 rb1 e0 e1 c4;go_wp2
 refine bodyPost_ret (v:=.tuple #[.agg #[.slice b n1 c1,.slice b' m1 c2],.int .i64 r.2]) (by simp[results,Tryz.results21,go_sem,y0,y1]) rfl ?_
 exact⟨_,_,_,_,_,_,rfl,K.out.1,K.out.2.1,K.out.2.2⟩
theorem Z3W (a:Option Addr) (n c:Nat) (a':Option Addr) (m c':Nat) (px:Nat) (i pl by_:Int) (D:Dv) (w:World) (h:Zc w a n a' m D) (hx:w.cell? ⟨px,4,none⟩=some (.int .i64 i)∧w.cell? ⟨px,5,none⟩=some (.int .i64 pl)∧w.cell? ⟨px,6,none⟩=some (.int .i64 by_)) (hlt:px<w.heap.size):
  Calls Tryz.prog 23 #[.agg #[.slice a n c,.slice a' m c'],.pointer (some ⟨px,0,none⟩)] w (OutE w (dvTurn D i pl by_)):=by
 obtain⟨W,hW⟩:∃ W,W=(w.alloc (.cells #[.slice a n c,.slice a' m c'] 56)).alloc (.cells #[.slice none 0 0,.slice none 0 0] 56):=⟨_,rfl⟩;have hB:Below w.heap.size w W:=by rw[hW]; go_grown
 have hz:W.heap.size=w.heap.size+2:=by rw[hW]; simp
 have rb:Box2 W (w.heap.size+1) (.slice none 0 0) (.slice none 0 0):=by rw[hW]; exact⟨by simp[go_sem],by simp[go_sem],by simp[go_sem],by simp[go_sem],by simp⟩
 have db:Box2 W w.heap.size (.slice a n c) (.slice a' m c'):=by rw[hW]; exact⟨by simp[go_sem],by simp[go_sem],by simp[go_sem],by simp[go_sem],by simp; omega⟩
 have hC:=Z5X a n c a' m c' i pl by_ D W (h.below hB);generalize dvTurn D i pl by_=r at hC;have c4:=(hB.cell (p:=⟨px,4,none⟩) hlt).trans hx.1;have c5:=(hB.cell (p:=⟨px,5,none⟩) hlt).trans hx.2.1;have c6:=(hB.cell (p:=⟨px,6,none⟩) hlt).trans hx.2.2;have e0:=db.c0;have e1:=db.c1;have HC:=hid hC;have HP:=hid (And.intro hB (And.intro hz rb));clear hC hB hz rb db h hx hlt;go_enter Tryz.func23,Tryz.ntmps23
 go_upto_region 1 with fail
 rw[<- hW];clear hW;go_wp2_with fail
 refine HC.out.mono ?_
 rintro _ w1 ⟨b,n1,c1,b',m1,c2,rfl,hD,hF,g1⟩;have rb1:=HP.out.2.2.below g1;have v0:=rb1.c0;have v1:=rb1.c1;have x0:=rb1.f0;have x1:=rb1.f1;obtain⟨y0,y1⟩:=Z6 (.slice b n1 c1) (.slice b' m1 c2) v0 v1;have K:=hid (W7 (p:=w.heap.size+1) (c:=c1) (c':=c2) hD hF (HP.out.1.trans (g1.mono HP.out.1.size)) (by omega) (by rw[HP.out.2.1]; omega) HP.out.1.size)
 clear hD hF g1 rb1 e0 e1 c4 c5 c6;go_wp2
 refine bodyPost_ret (v:=.tuple #[.agg #[.slice b n1 c1,.slice b' m1 c2],.int .i64 r.2]) (by simp[results,Tryz.results23,go_sem,y0,y1]) rfl ?_
 exact⟨_,_,_,_,_,_,rfl,K.out.1,K.out.2.1,K.out.2.2⟩
def chgA (A:Ar) (d:Int) (X:Dv × Int):Ar × Int:=if 0<=d∧d<=2 then (if X.2=0 then (A.set d.toNat X.1,0) else ([],X.2)) else ([],2)
theorem Z0C (b o c:Nat) (d:Int) (g:Nat) (lb:Array Value) (w:World) (hd:¬ (0<=d∧d<=2)):
  Calls Tryz.prog 20 #[.agg #[.slice (some ⟨b,o,none⟩) 3 c],.int .i64 d,.func (.func g) #[] lb] w (OutA w ([],2)):=by
 obtain⟨W,hW⟩:∃ W,W=(w.alloc (.cells #[.slice (some ⟨b,o,none⟩) 3 c] 26)).alloc (.cells #[.slice none 0 0] 26):=⟨_,rfl⟩;have hB:Below w.heap.size w W:=by rw[hW]; go_grown
 have rc:W.cell? ⟨w.heap.size+1,0,none⟩=some (.slice none 0 0):=by rw[hW]; simp[go_sem]
 have rf:W.frozen? ⟨w.heap.size+1,0,none⟩=false:=by rw[hW]; simp[go_sem]
 have c0:W.cell? ⟨w.heap.size,0,none⟩=some (.slice (some ⟨b,o,none⟩) 3 c):=by rw[hW]; simp[go_sem]
 have y0:=World.cell?_setCell_same W ⟨w.heap.size+1,0,none⟩ (.slice none 0 0) rc
 have G1:=hid (Zp (x:=2) (hB.setCell (p:=⟨w.heap.size+1,0,none⟩) (by show w.heap.size<=w.heap.size+1; omega) (.slice none 0 0)))
 clear hB
 by_cases hn:d<0
 ·clear hd
  go_enter Tryz.func20,Tryz.ntmps20
  go_upto_region 1 with fail
  rw[<- hW];clear hW;go_wp2
  refine bodyPost_ret (v:=.tuple #[.agg #[.slice none 0 0],.int .i64 2]) (by simp[results,Tryz.results20,go_sem,y0]) rfl ?_
  exact G1.out
 ·have h3:3<=d:=by omega
  clear hd;go_enter Tryz.func20,Tryz.ntmps20
  go_upto_region 1 with fail
  rw[<- hW];clear hW;go_wp2
  refine bodyPost_ret (v:=.tuple #[.agg #[.slice none 0 0],.int .i64 2]) (by simp[results,Tryz.results20,go_sem,y0]) rfl ?_
  exact G1.out
theorem Z2V (b o c:Nat) (h:Nat->Hd) (K:Nat) (g:Nat) (lb:Array Value) (A:Ar) (X:Dv × Int) (w:World) (H:Arr w b o 3 h A) (hm:Z2 A=true) (hk:K<3) (eg:∀ args w,(callFunc g args).run Tryz.prog w=.ok (.enter g args) w)
  (hc:∀ w1,Below w.heap.size w w1->∀ x n e y m e',Zc w1 x n y m (dev A K)->Calls Tryz.prog g (#[.agg #[.slice x n e,.slice y m e']]++lb) w1 (OutE w1 X)):
  Calls Tryz.prog 20 #[.agg #[.slice (some ⟨b,o,none⟩) 3 c],.int .i64 K,.func (.func g) #[] lb] w (OutA w (if X.2=0 then (A.set K X.1,0) else ([],X.2))):=by
 obtain⟨W,hW⟩:∃ W,W=(w.alloc (.cells #[.slice (some ⟨b,o,none⟩) 3 c] 26)).alloc (.cells #[.slice none 0 0] 26):=⟨_,rfl⟩;have hB:Below w.heap.size w W:=by rw[hW]; go_grown
 have hz:W.heap.size=w.heap.size+2:=by rw[hW]; simp
 have rc:W.cell? ⟨w.heap.size+1,0,none⟩=some (.slice none 0 0):=by rw[hW]; simp[go_sem]
 have rf:W.frozen? ⟨w.heap.size+1,0,none⟩=false:=by rw[hW]; simp[go_sem]
 have c0:W.cell? ⟨w.heap.size,0,none⟩=some (.slice (some ⟨b,o,none⟩) 3 c):=by rw[hW]; simp[go_sem]
 have HW:=H.below hB;have q0:=HW.c0 K hk;have q1:=HW.c1 K hk;have HCl:=hid (hc W hB (h K).x (h K).p (h K).c (h K).y (h K).q (h K).d (HW.dv K hk));have CC:=hid (fun wx (g:Below W.heap.size W wx)=>XI (some ⟨b,o,none⟩) 3 c A wx (.inr ⟨b,o,h,rfl,HW.below g⟩) (ZN A hm))
 have HP:=hid (And.intro hB (And.intro hz (And.intro c0 (And.intro rc rf))));have k0:¬ (K:Int)<0:=by omega
 have k3:¬ (3:Int)<=K:=by omega
 have k4:(K:Int)<3:=by omega
 clear hB hz rc rf H HW hm hc;generalize h K=hK at q0 q1 HCl
 by_cases h3:X.2=0
 ·obtain⟨X1,X2⟩:=X
  dsimp only at h3 HCl ⊢;subst h3;rw[if_pos rfl];go_enter Tryz.func20,Tryz.ntmps20
  go_upto_region 1 with fail
  rw[<- hW];clear hW;go_wp2_with fail
  go_at_fn g
  refine HCl.out.mono ?_
  rintro _ w1 ⟨x1,n1,e1,y1,m1,e2,rfl,hD,_,g1⟩;clear eg q0 q1 HCl k0 k3;go_upto_region 4 with fail
  obtain⟨V,hV⟩:∃ V,V=w1.alloc (.cells #[.slice x1 n1 e1,.slice y1 m1 e2] 56):=⟨_,rfl⟩;have b1:Below w1.heap.size w1 V:=by rw[hV]; exact (Below.refl _ w1).alloc (Nat.le_refl _) _
  have db:Box2 V w1.heap.size (.slice x1 n1 e1) (.slice y1 m1 e2):=by rw[hV]; exact box2_of (Own.made w1 56 [.slice x1 n1 e1,.slice y1 m1 e2])
  rw[<- hV];have G1:=hid (bel3 g1 b1);have HD:=hid (And.intro (hD.below b1) db);clear hV b1 db hD g1 c0;generalize w1.heap.size=pd at HD ⊢;have c0:=(G1.out.cell (p:=⟨w.heap.size,0,none⟩) (by show w.heap.size<W.heap.size; rw[HP.out.2.1]; omega)).trans HP.out.2.2.1
  go_wp2_with fail
  refine (CC.out _ G1.out).mono ?_
  rintro _ w3 ⟨a3,c3,rfl,h3,g3⟩
  rcases h3 with ⟨h30,_⟩ | ⟨b3,hd3,rfl,hb3,hf3⟩
  ·omega
  have hst:=XJ (pr:=w.heap.size+1) (cc:=c3) HP.out.1 (by omega) (by rw[HP.out.2.1]; omega) HP.out.2.2.2.1 HP.out.2.2.2.2 (bel3 G1.out g3) (Nat.le_trans G1.out.size hb3) hf3
  have S3:=hid hst;clear c0;go_upto_region 7 with fail
  obtain⟨W3,hW3⟩:∃ W3,W3=w3.alloc (.cells #[.slice (some ⟨b3,0,none⟩) 3 c3] 26):=⟨_,rfl⟩;have b3':Below w3.heap.size w3 W3:=by rw[hW3]; exact (Below.refl _ w3).alloc (Nat.le_refl _) _
  have G3:=bel3 g3 b3';rw[<- hW3] at S3 ⊢;clear hW3 hst hf3 hb3 g3 G1 CC b3';generalize w3.heap.size=pc at S3 ⊢;have D3:=HD.out.1.below G3;have B3:=HD.out.2.below G3;have u0:=B3.c0;have u1:=B3.c1;have cb:=S3.out.cb;obtain⟨h5,f5⟩:=S3.out.fr;have Z:=f5.store0 K hk ⟨x1,n1,e1,y1,m1,e2⟩ _ D3;have z0:=Z.1.1;have z1:=Z.1.2.1;have z2:=Z.1.2.2.1;have z3:=Z.1.2.2.2;have S7:=hid (S3.out.grown Z.2.2 ⟨_,Z.2.1⟩);have cb7:=S7.out.cb;have rc:=S7.out.rc;have rf:=S7.out.rf;have y0:=World.cell?_setCell_same _ ⟨w.heap.size+1,0,none⟩ (.slice (some ⟨b3,0,none⟩) 3 c3) rc
  clear D3 B3 f5 Z S3 HD G3;go_wp2
  refine bodyPost_ret (v:=.tuple #[.agg #[.slice (some ⟨b3,0,none⟩) 3 c3],.int .i64 0]) (by simp[results,Tryz.results20,go_sem,y0]) rfl ?_
  exact S7.out.out
 ·rw[if_neg h3]
  have h3':(X.2 != 0)=true:=bne_iff_ne.2 h3;clear h3;go_enter Tryz.func20,Tryz.ntmps20
  go_upto_region 1 with fail
  rw[<- hW];clear hW;go_wp2_with fail
  go_at_fn g
  refine HCl.out.mono ?_
  rintro _ w1 ⟨x1,n1,e1,y1,m1,e2,rfl,hD,_,g1⟩;clear eg q0 q1 HCl k0 k3;go_upto_region 4 with fail
  obtain⟨V,hV⟩:∃ V,V=w1.alloc (.cells #[.slice x1 n1 e1,.slice y1 m1 e2] 56):=⟨_,rfl⟩;have b1:Below w1.heap.size w1 V:=by rw[hV]; exact (Below.refl _ w1).alloc (Nat.le_refl _) _
  have db:Box2 V w1.heap.size (.slice x1 n1 e1) (.slice y1 m1 e2):=by rw[hV]; exact box2_of (Own.made w1 56 [.slice x1 n1 e1,.slice y1 m1 e2])
  rw[<- hV];have G1:=hid (bel3 g1 b1);have HD:=hid (And.intro (hD.below b1) db);clear hV b1 db hD g1 c0;generalize w1.heap.size=pd at HD ⊢;have r1:=(G1.out.cell (p:=⟨w.heap.size+1,0,none⟩) (by show w.heap.size+1<W.heap.size; rw[HP.out.2.1]; omega)).trans HP.out.2.2.2.1
  have r2:=(G1.out.frozen (p:=⟨w.heap.size+1,0,none⟩) (by show w.heap.size+1<W.heap.size; rw[HP.out.2.1]; omega)).trans HP.out.2.2.2.2
  have y0:=World.cell?_setCell_same V ⟨w.heap.size+1,0,none⟩ (.slice none 0 0) r1
  have K2:=hid (Zp (x:=X.2) ((bel3 HP.out.1 G1.out).setCell (p:=⟨w.heap.size+1,0,none⟩) (by show w.heap.size<=w.heap.size+1; omega) (.slice none 0 0)))
  clear HD G1 CC;go_wp2
  refine bodyPost_ret (v:=.tuple #[.agg #[.slice none 0 0],.int .i64 X.2]) (by simp[results,Tryz.results20,go_sem,y0]) rfl ?_
  exact K2.out
theorem Uz (b o c:Nat) (h:Nat->Hd) (d:Int) (g:Nat) (lb:Array Value) (A:Ar) (X:Dv × Int) (w:World) (H:Arr w b o 3 h A) (hm:Z2 A=true) (eg:∀ args w,(callFunc g args).run Tryz.prog w=.ok (.enter g args) w)
  (hc:0<=d∧d<=2->∀ w1,Below w.heap.size w w1->∀ x n e y m e',Zc w1 x n y m (dev A d.toNat)->Calls Tryz.prog g (#[.agg #[.slice x n e,.slice y m e']]++lb) w1 (OutE w1 X)):
  Calls Tryz.prog 20 #[.agg #[.slice (some ⟨b,o,none⟩) 3 c],.int .i64 d,.func (.func g) #[] lb] w (OutA w (chgA A d X)):=by
 unfold chgA
 by_cases hd:0<=d∧d<=2
 ·rw[if_pos hd]
  obtain⟨K,rfl⟩:∃ K:Nat,d=K:=⟨d.toNat,by omega⟩
  have hc':=hc hd;rw[Int.toNat_natCast] at hc' ⊢;exact Z2V b o c h K g lb A X w H hm (by omega) eg hc'
 ·rw[if_neg hd]
  exact Z0C b o c d g lb w hd
end Go.Proofs.YtdnacpbgodooaaaGreatDoor
namespace Go.Proofs.YtdnacpbgodooaaaGreatDoor
open Go.RowKit Go.Lib
structure StF (B M:Nat) (R:Tr) (a:Option Addr) (n:Nat) (a2:Option Addr) (n2:Nat) (w:World):Prop where
 arr:Z5 w a n R.A
 may:n=0∨Z2 R.A=true
 new:NewS B a n
 int:ZP w a2 n2 (ups R.gone)
 newI:NewS B a2 n2
 top:0<n2->∀ b o s,a2=some ⟨b,o,s⟩->b<M
section
variable {B M:Nat} {R:Tr} {a:Option Addr} {n:Nat} {a2:Option Addr} {n2:Nat} {w w':World}
theorem StF.to (H:StF B M R a n a2 n2 w) (g:Below w.heap.size w w'):StF B M R a n a2 n2 w':=⟨H.arr.below g,H.may,H.new,H.int.below g,H.newI,H.top⟩
theorem StF.alloc (H:StF B M R a n a2 n2 w) (o:Obj):StF B M R a n a2 n2 (w.alloc o):=H.to ((Below.refl _ w).alloc (Nat.le_refl _) o)
theorem StF.drew (H:StF B M R a n a2 n2 w):StF B M R a n a2 n2 w.drew:=H.to (Below.refl _ w).drew
theorem StF.set (H:StF B M R a n a2 n2 w) {q:Addr} {u:Value} (hc:w.cell? q=some u) (hz:Zr u) (hq:q.block<B∨M<=q.block) (v:Value):StF B M R a n a2 n2 (w.setCell q v):=by
 refine⟨?_,H.may,H.new,⟨H.int.sn,H.int.nb,H.int.R.grown (row:=some q.block) ?_ (Xw w q v)⟩,H.newI,H.top⟩
 ·rcases H.may with h | h
  ·refine .inl ⟨h,List.eq_nil_of_length_eq_zero ?_⟩
   rw[<- H.arr.len,h]
  ·exact H.arr.keepz h (Zv hc hz v)
 ·rw[Zt,<- H.int.sn]
  intro h0 b o s e e2;have h1:=H.newI h0 b o s e;have h2:=H.top h0 b o s e;cases e2
  omega
end
theorem via2 {G F:World->Nat->Nat->Option Addr->Nat->Nat->Option Addr->Nat->Nat->Prop} {R:Prop} (main:(∀ x p q a n c b m d,F x p q a n c b m d->G x p q a n c b m d)->R) (key:∀ x p q a n c b m d,F x p q a n c b m d->G x p q a n c b m d):R:=main key
theorem Zf (w:World) (t:TypeId) (L:List Value):∃ p W,w.heap.size=p∧w.alloc (.cells L.toArray t)=W∧Below w.heap.size w W∧Hid (Own W p t L):=
 ⟨_,_,rfl,rfl,(Below.refl _ w).alloc (Nat.le_refl _) _,Own.made w t L⟩
theorem Z42 (A:Ar) (nx rd m:Int) (h:(arStep A nx rd m).e≠0):(arStep A nx rd m).A=[]:=by
 unfold arStep at h ⊢
 split
 ·rename_i h1
  rw[if_pos h1] at h
  split
  ·rename_i h2
   rw[if_pos h2] at h
   split
   ·rename_i h3
    rw[if_pos h3] at h;exact absurd rfl h
   ·rfl
  ·rfl
 ·rfl
def OutSf (W:World) (B:Nat) (R:Tr) (e:Ending) (w':World):Prop:=
 ∃ a n c a2 n2 c2,e=.returned (.tuple #[.agg #[.slice a n c],.agg #[.int .i64 R.nx,.int .i64 R.rd],.int .i64 R.ct,.slice a2 n2 c2,.int .i64 R.e])∧StF B w'.heap.size R a n a2 n2 w'∧Below W.heap.size W w'
theorem Z7v (b o c:Nat) (hd:Nat->Hd) (A:Ar) (x r m:Int) (W wx:World) (H:Arr W b o 3 hd A) (g:Below W.heap.size W wx):
  Calls Tryz.prog 56 #[.agg #[.slice (some ⟨b,o,none⟩) 3 c],.agg #[.int .i64 x,.int .i64 r],.int .i64 m] wx fun e w'=>OutSf W wx.heap.size (arStep A x r m) e w'∧Below wx.heap.size wx w':=by
 refine (Z63 (some ⟨b,o,none⟩) 3 c A x r m wx (.inr ⟨b,o,hd,rfl,H.below g⟩)).mono ?_
 rintro e w' ⟨⟨a,n,c1,a2,n2,c2,he,⟨hA,hN⟩,hI,hN2⟩,g3⟩;refine⟨⟨a,n,c1,a2,n2,c2,he,⟨hA,?_,hN,hI,hN2,fun h0 b o s e=>?_⟩,bel3 g g3⟩,g3⟩
 ·by_cases q:(arStep A x r m).e=0
  ·exact .inr (TZ A x r m q)
  ·left
   rw[hA.len,Z42 A x r m q]
   rfl
 ·have hl:0<(ZX (ups (arStep A x r m).gone)).length:=by rw[Zt,<- hI.sn]; exact h0
  obtain⟨b2,o2,e2,hlt,_⟩:=hI.R 0 _ (List.getElem?_eq_getElem hl)
  rw[e] at e2;cases e2
  exact hlt
theorem Z3v {W w:World} {p5 p6 B M:Nat} {R:Tr} {a:Option Addr} {n:Nat} {a2:Option Addr} {n2:Nat} {v:Value} (h5:Own w p5 26 [v]) (h6:Own w p6 41 [.int .i64 0,.int .i64 0]) (hF:StF B M R a n a2 n2 w) (hG:Below W.heap.size W w) (hne:p5≠p6) (hq:p6<B∨M<=p6) (hw:W.heap.size<=p6) (x r:Int):
  ((w.setCell ⟨p6,0,none⟩ (.int .i64 x)).setCell ⟨p6,1,none⟩ (.int .i64 r)).cell? ⟨p5,0,none⟩=some v∧((w.setCell ⟨p6,0,none⟩ (.int .i64 x)).setCell ⟨p6,1,none⟩ (.int .i64 r)).cell? ⟨p6,0,none⟩=some (.int .i64 x)∧((w.setCell ⟨p6,0,none⟩ (.int .i64 x)).setCell ⟨p6,1,none⟩ (.int .i64 r)).cell? ⟨p6,1,none⟩=some (.int .i64 r) ∧
   StF B M R a n a2 n2 ((w.setCell ⟨p6,0,none⟩ (.int .i64 x)).setCell ⟨p6,1,none⟩ (.int .i64 r))∧Below W.heap.size W ((w.setCell ⟨p6,0,none⟩ (.int .i64 x)).setCell ⟨p6,1,none⟩ (.int .i64 r)):=by
 have k6:Own (w.setCell ⟨p6,0,none⟩ (.int .i64 x)) p6 41 [.int .i64 x,.int .i64 0]:=h6.set (i:=0) (by simp) _
 have m6:Own ((w.setCell ⟨p6,0,none⟩ (.int .i64 x)).setCell ⟨p6,1,none⟩ (.int .i64 r)) p6 41 [.int .i64 x,.int .i64 r]:=k6.set (i:=1) (by simp) _
 exact⟨((h5.other (p:=⟨p6,0,none⟩) hne _).other (p:=⟨p6,1,none⟩) hne _).cell (i:=0) rfl,m6.cell (i:=0) rfl,m6.cell (i:=1) rfl,(hF.set (h6.cell (i:=0) rfl) (.inl rfl) hq _).set (k6.cell (i:=1) rfl) (.inl rfl) hq _,(hG.setCell (p:=⟨p6,0,none⟩) hw _).setCell (p:=⟨p6,1,none⟩) hw _⟩
theorem Z2U {w V:World} {p pr:Nat} {h:Ha} {A':Ar} {b o c:Nat} {hd:Nat->Hd} {a2:Option Addr} {n2:Nat} {L:List Int} {B:Nat} (S:Se V p h) (HX:Arr V b o 3 hd A') (hm:Z2 A'=true) (hb:b≠p) (hI:ZP V a2 n2 L) (hN:NewS B a2 n2) (hB:p<B) (O:Own V pr 34 zero5) (hpr:pr≠p) (hc:Chg (fun j=>j=p) w V) (x r:Int):
  Se (((V.setCell ⟨p,0,none⟩ (.slice (some ⟨b,o,none⟩) 3 c)).setCell ⟨p,1,none⟩ (.int .i64 x)).setCell ⟨p,2,none⟩ (.int .i64 r)) p ⟨A',x,r⟩∧ZP (((V.setCell ⟨p,0,none⟩ (.slice (some ⟨b,o,none⟩) 3 c)).setCell ⟨p,1,none⟩ (.int .i64 x)).setCell ⟨p,2,none⟩ (.int .i64 r)) a2 n2 L ∧
   Own (((V.setCell ⟨p,0,none⟩ (.slice (some ⟨b,o,none⟩) 3 c)).setCell ⟨p,1,none⟩ (.int .i64 x)).setCell ⟨p,2,none⟩ (.int .i64 r)) pr 34 zero5∧Chg (fun j=>j=p) w (((V.setCell ⟨p,0,none⟩ (.slice (some ⟨b,o,none⟩) 3 c)).setCell ⟨p,1,none⟩ (.int .i64 x)).setCell ⟨p,2,none⟩ (.int .i64 r)):=by
 have c1:=(((Chg.refl (fun j=>j=p) V).set (p:=p) rfl 0 (.slice (some ⟨b,o,none⟩) 3 c)).set (p:=p) rfl 1 (.int .i64 x)).set (p:=p) rfl 2 (.int .i64 r)
 refine⟨((S.put HX hm hb c).nx x).rd r,⟨hI.sn,hI.nb,hI.R.grown (row:=some p) ?_ ⟨c1.os,c1.tape,c1.output,c1.size,fun k hk hne=>c1.block k hk (fun e=>hne (by rw[e]))⟩⟩,((O.other (p:=⟨p,0,none⟩) hpr _).other (p:=⟨p,1,none⟩) hpr _).other (p:=⟨p,2,none⟩) hpr _,hc.step c1⟩
 rw[Zt,<- hI.sn];exact hN.off (fun g e=>by cases e; exact hB)
theorem Wm.drew {w w':World} {p:Nat} {r:Ha × An} {e:Ending} (h:Wm w p r e w'):Wm w p r e w'.drew:=by
 obtain⟨q,h1,h2,h3,h4,h5,h6⟩:=h;exact⟨q,h1,h2,h3.below (Below.refl _ _).drew,h4,h5.below (Below.refl _ _).drew,h6.drew⟩
theorem Z67 {w:World} {p:Nat} {h:Ha} (S:Se w p h):∃ v0,(w.cell? ⟨p,0,none⟩=some v0∧w.cell? ⟨p,1,none⟩=some (.int .i64 h.nx)∧w.cell? ⟨p,2,none⟩=some (.int .i64 h.rd))∧(w.frozen? ⟨p,0,none⟩=false∧w.frozen? ⟨p,1,none⟩=false∧w.frozen? ⟨p,2,none⟩=false):=by
 obtain⟨b1,o1,cc1,hd1,q1,_,_⟩:=S.ex;exact⟨_,⟨q1.cell (i:=0) rfl,q1.cell (i:=1) rfl,q1.cell (i:=2) rfl⟩,q1.free 0,q1.free 1,q1.free 2⟩
theorem Z2R (p:Nat) (h:Ha) (n:Int) (w:World) (H:Se w p h):
  Calls Tryz.prog 26 #[.pointer (some ⟨p,0,none⟩),.int .i64 n] w (Wm w p (actScrub h n)):=by
 obtain⟨W,hW⟩:∃ W,W=w.alloc (.cells #[.int .i64 0,.string ⟨#[]⟩,.slice none 0 0,.int .i64 0,.slice none 0 0] 34):=⟨_,rfl⟩;have hB:Below w.heap.size w W:=by rw[hW]; go_grown
 have O5:Own W w.heap.size 34 zero5:=by rw[hW]; exact Own.made w 34 zero5
 have HW:=H.below hB;obtain⟨b0,o0,cc,hd0,h1,h2,h3⟩:=HW.ex;have d0:=h1.cell (i:=0) rfl;have d1:=h1.cell (i:=1) rfl;have d2:=h1.cell (i:=2) rfl;have CS:=hid (fun wx (g:Below W.heap.size W wx)=>Z7v b0 o0 cc hd0 h.A h.nx h.rd n W wx h2 g)
 have HM:=hid (TZ h.A h.nx h.rd n);have HP:=hid (And.intro hB (And.intro O5 (And.intro HW H.lt)));have plt:=HW.lt;have HPL:=hid plt;have HA:=hid (fun (wx:World) (g:Below W.heap.size W wx)=>And.intro ((g.cell (p:=⟨p,0,none⟩) plt).trans d0) (And.intro ((g.cell (p:=⟨p,1,none⟩) plt).trans d1) ((g.cell (p:=⟨p,2,none⟩) plt).trans d2)))
 clear h1 h2 h3 hB O5 HW H;unfold actScrub;generalize arStep h.A h.nx h.rd n=R at CS HM;obtain⟨A,nx,rd⟩:=h;dsimp only at d0 d1 d2 HP HA;obtain⟨ra,hra⟩:∃ ra:Ha × An,(if R.e=0 then ((⟨R.A,R.nx,R.rd⟩:Ha),(⟨0,[],[],R.ct,R.gone⟩:An)) else (⟨A,nx,rd⟩,anE R.e))=ra:=⟨_,rfl⟩
 rw[hra];have HRA:=hid hra;clear hra;go_enter Tryz.func26,Tryz.ntmps26
 go_upto_region 1 with fail
 rw[<- hW];clear hW;go_cut [5,6,7,8,9] (fun s5 s6 s7 s8 s9 wx=>∃ a n1 c1 a2 n2 c2 p5 p6 B M,s5=.pointer (some ⟨p5,0,none⟩)∧s6=.pointer (some ⟨p6,0,none⟩)∧s7=.int .i64 R.ct∧s8=.slice a2 n2 c2∧s9=.int .i64 R.e∧StF B M R a n1 a2 n2 wx∧(W.heap.size<=B∧W.heap.size<=p5∧W.heap.size<=p6)∧(wx.cell? ⟨p5,0,none⟩=some (.slice a n1 c1)∧wx.cell? ⟨p6,0,none⟩=some (.int .i64 R.nx)∧wx.cell? ⟨p6,1,none⟩=some (.int .i64 R.rd))∧Below W.heap.size W wx)
 case first=>
  refine Zq (fun w'=>w'.cell? ⟨p,0,none⟩=some (.slice (some ⟨b0,o0,none⟩) 3 cc)∧w'.cell? ⟨p,1,none⟩=some (.int .i64 nx)∧w'.cell? ⟨p,2,none⟩=some (.int .i64 rd)) (fun _=>True) 18 (by kernel_rfl) (HA.out _ (Below.refl _ W).drew) trivial (fun hT=>?_)
  have S0:Hid (Below W.heap.size W W.drew):=(Below.refl _ W).drew;clear d0 d1 d2;refine tkn (i:=0) rfl (by kernel_rfl) (fun _ _ _ h=>h) (by rfl) (by intro w h; (try dsimp only at h); go_simp; first | done | with_reducible rfl) hT ?_
  clear hT; intro hT; try simp only[Act.put,List.setIfInBounds_toArray,List.set]
  refine tkn (i:=1) rfl (by kernel_rfl) (fun _ _ _ h=>h) (by rfl) (by intro w h; (try dsimp only at h); go_simp; first | done | with_reducible rfl) hT ?_
  clear hT; intro hT; try simp only[Act.put,List.setIfInBounds_toArray,List.set]
  refine tkn (i:=2) rfl (by kernel_rfl) (fun _ _ _ h=>h) (by rfl) (by intro w h; (try dsimp only at h); go_simp; first | done | with_reducible rfl) hT ?_
  clear hT; intro hT; try simp only[Act.put,List.setIfInBounds_toArray,List.set]
  refine tkn (i:=3) rfl (by kernel_rfl) (fun _ _ _ h=>h) (by rfl) (by intro w h; (try dsimp only at h); go_simp; first | done | with_reducible rfl) hT ?_
  clear hT; intro hT; try simp only[Act.put,List.setIfInBounds_toArray,List.set]
  refine tkn (i:=4) rfl (by kernel_rfl) (fun _ _ _ h=>h) (by rfl) (by intro w h; (try dsimp only at h); go_simp; first | done | with_reducible rfl) hT ?_
  clear hT; intro hT; try simp only[Act.put,List.setIfInBounds_toArray,List.set]
  refine tkn (i:=5) rfl (by kernel_rfl) (fun _ _ _ h=>h) (by rfl) (by intro w h; (try dsimp only at h); go_simp; first | done | with_reducible rfl) hT ?_
  clear hT; intro hT; try simp only[Act.put,List.setIfInBounds_toArray,List.set]
  refine tkn (i:=6) rfl (by kernel_rfl) (fun _ _ _ h=>h) (by rfl) (by intro w h; (try dsimp only at h); go_simp; first | done | with_reducible rfl) hT ?_
  clear hT; intro hT; try simp only[Act.put,List.setIfInBounds_toArray,List.set]
  refine tkn (i:=7) rfl (by kernel_rfl) (fun _ _ _ h=>h) (by rfl) (by intro w h; (try dsimp only at h); go_simp; first | done | with_reducible rfl) hT ?_
  clear hT; intro hT; try simp only[Act.put,List.setIfInBounds_toArray,List.set]
  refine tkn (i:=8) rfl (by kernel_rfl) (fun _ _ _ h=>h) (by rfl) (by intro w h; (try dsimp only at h); go_simp; first | done | with_reducible rfl) hT ?_
  clear hT; intro hT; try simp only[Act.put,List.setIfInBounds_toArray,List.set]
  generalize W.drew=V at S0 hT ⊢;clear hT
  apply via2 (F:=fun x p5 p6 a n1 c1 a2 n2 c2=>∃ B M,Below W.heap.size W x∧(Own x p5 26 [.slice none 0 0]∧W.heap.size<=p5)∧(Own x p6 41 [.int .i64 0,.int .i64 0]∧W.heap.size<=p6)∧(StF B M R a n1 a2 n2 x∧W.heap.size<=B∧M<=x.heap.size)∧p5≠p6∧(p5<B∨M<=p5)∧(p6<B∨M<=p6))
  case main=>
   intro key;refine VQ (i:=9) (j:=16) (m:=17) rfl rfl rfl (by kernel_rfl) (fun K hK=>?_) (fun K hK=>?_) (fun K hK=>?_)
   ·go_simp
    go_at_call 56
    refine (CS.out _ S0.out).mono ?_
    rintro _ xc ⟨⟨a,n1,c1,a2,n2,c2,rfl,hF,hG⟩,gc⟩;obtain⟨B,hB1⟩:∃ B,V.heap.size=B:=⟨_,rfl⟩;obtain⟨M,hM1⟩:∃ M,xc.heap.size=M:=⟨_,rfl⟩;rw[hB1,hM1] at hF;have SC:Hid (StF B M R a n1 a2 n2 xc∧W.heap.size<=B∧M<=xc.heap.size):=⟨hF,by rw[<- hB1]; exact S0.out.size,Nat.le_of_eq hM1.symm⟩
    have SB:=hid hG;refine hK.out _ _ ?hs3 ?rs3
    case hs3=>exact⟨HA.out _ SB.out,fun _=>trivial⟩
    clear hK K hF hG gc hB1 hM1; intro hT; try simp only[Act.put,List.setIfInBounds_toArray,List.set]
    refine tkn (i:=10) rfl (by kernel_rfl) (fun _ _ _ h=>h) (by rfl) (by intro w h; (try dsimp only at h); go_simp; first | done | with_reducible rfl) hT ?_
    clear hT; intro hT; try simp only[Act.put,List.setIfInBounds_toArray,List.set]
    refine tkn (i:=11) rfl (by kernel_rfl) (fun _ _ _ h=>h) (by rfl) (by intro w h; (try dsimp only at h); go_simp; first | done | with_reducible rfl) hT ?_
    clear hT; intro hT; try simp only[Act.put,List.setIfInBounds_toArray,List.set]
    refine tkn (i:=12) rfl (by kernel_rfl) (fun _ _ _ h=>h) (by rfl) (by intro w h; (try dsimp only at h); go_simp; first | done | with_reducible rfl) hT ?_
    clear hT; intro hT; try simp only[Act.put,List.setIfInBounds_toArray,List.set]
    refine tkn (i:=13) rfl (by kernel_rfl) (fun _ _ _ h=>h) (by rfl) (by intro w h; (try dsimp only at h); go_simp; first | done | with_reducible rfl) hT ?_
    clear hT; intro hT; try simp only[Act.put,List.setIfInBounds_toArray,List.set]
    refine tkn (i:=14) rfl (by kernel_rfl) (fun _ _ _ h=>h) (by rfl) (by intro w h; (try dsimp only at h); go_simp; first | done | with_reducible rfl) hT ?_
    clear hT; intro hT; try simp only[Act.put,List.setIfInBounds_toArray,List.set]
    refine tkn (i:=15) rfl (by kernel_rfl) (fun _ _ _ h=>h) (by rfl) (by intro w h; (try dsimp only at h); go_simp; first | done | with_reducible rfl) hT ?_
    clear hT; intro hT; try simp only[Act.put,List.setIfInBounds_toArray,List.set]
    refine Xe (i:=16) (j:=17) rfl rfl (by kernel_rfl) (fun K hK=>?_) (fun K hK=>?_)
    ·go_simp
     obtain⟨p5,xp5,e,f,g,Op5⟩:=Zf xc 26 [.slice none 0 0];rw[e,f];have Wp5:=hid (show W.heap.size<=p5 by rw[<- e]; exact SB.out.size)
     have Sp5:=hid (bel3 SB.out g);have Fp5:Hid (p5<B∨M<=p5):=.inr (by rw[<- e]; exact SC.out.2.2)
     have SC:Hid (StF B M R a n1 a2 n2 xp5∧W.heap.size<=B∧M<=xp5.heap.size):=⟨SC.out.1.to g,SC.out.2.1,Nat.le_trans SC.out.2.2 g.size⟩;refine hK.out _ _ ?hs4 ?rs4
     case hs4=>exact⟨HA.out _ Sp5.out,fun _=>trivial⟩
     clear hT hK K e f g; intro hT; try simp only[Act.put,List.setIfInBounds_toArray,List.set]
     refine Z0 (i:=17) rfl (by kernel_rfl) (fun K hK=>?_)
     go_simp;obtain⟨p6,xp6,e,f,g,Op6⟩:=Zf xp5 41 [.int .i64 0,.int .i64 0];rw[e,f];have Wp6:=hid (show W.heap.size<=p6 by rw[<- e]; exact Sp5.out.size)
     have NE:=hid (show p5≠p6 from fun r=>by have:=Op5.out.lt; rw[e] at this; omega)
     have Sp6:=hid (bel3 Sp5.out g);have Fp6:Hid (p6<B∨M<=p6):=.inr (by rw[<- e]; exact SC.out.2.2)
     have SC:Hid (StF B M R a n1 a2 n2 xp6∧W.heap.size<=B∧M<=xp6.heap.size):=⟨SC.out.1.to g,SC.out.2.1,Nat.le_trans SC.out.2.2 g.size⟩;have Op5:=hid (Op5.out.below' g);refine hK.out _ _ ?hs5 ?rs5
     case hs5=>exact⟨HA.out _ Sp6.out,fun _=>trivial⟩
     clear hT hK K e f g; intro hT; try simp only[Act.put,List.setIfInBounds_toArray,List.set]
     exact key _ p5 p6 a n1 c1 a2 n2 c2 ⟨B,M,Sp6.out,⟨Op5.out,Wp5.out⟩,⟨Op6.out,Wp6.out⟩,SC.out,NE.out,Fp5.out,Fp6.out⟩
    ·go_simp
     obtain⟨p6,xp6,e,f,g,Op6⟩:=Zf xc 41 [.int .i64 0,.int .i64 0];rw[e,f];have Wp6:=hid (show W.heap.size<=p6 by rw[<- e]; exact SB.out.size)
     have Sp6:=hid (bel3 SB.out g);have Fp6:Hid (p6<B∨M<=p6):=.inr (by rw[<- e]; exact SC.out.2.2)
     have SC:Hid (StF B M R a n1 a2 n2 xp6∧W.heap.size<=B∧M<=xp6.heap.size):=⟨SC.out.1.to g,SC.out.2.1,Nat.le_trans SC.out.2.2 g.size⟩;refine hK.out _ _ ?hs6 ?rs6
     case hs6=>exact⟨HA.out _ Sp6.out,fun _=>trivial⟩
     clear hT hK K e f g; intro hT; try simp only[Act.put,List.setIfInBounds_toArray,List.set]
     refine Z0 (i:=16) rfl (by kernel_rfl) (fun K hK=>?_)
     go_simp;obtain⟨p5,xp5,e,f,g,Op5⟩:=Zf xp6 26 [.slice none 0 0];rw[e,f];have Wp5:=hid (show W.heap.size<=p5 by rw[<- e]; exact Sp6.out.size)
     have NE:=hid (show p5≠p6 from fun r=>by have:=Op6.out.lt; rw[e] at this; omega)
     have Sp5:=hid (bel3 Sp6.out g);have Fp5:Hid (p5<B∨M<=p5):=.inr (by rw[<- e]; exact SC.out.2.2)
     have SC:Hid (StF B M R a n1 a2 n2 xp5∧W.heap.size<=B∧M<=xp5.heap.size):=⟨SC.out.1.to g,SC.out.2.1,Nat.le_trans SC.out.2.2 g.size⟩;have Op6:=hid (Op6.out.below' g);refine hK.out _ _ ?hs7 ?rs7
     case hs7=>exact⟨HA.out _ Sp5.out,fun _=>trivial⟩
     clear hT hK K e f g; intro hT; try simp only[Act.put,List.setIfInBounds_toArray,List.set]
     exact key _ p5 p6 a n1 c1 a2 n2 c2 ⟨B,M,Sp5.out,⟨Op5.out,Wp5.out⟩,⟨Op6.out,Wp6.out⟩,SC.out,NE.out,Fp5.out,Fp6.out⟩
   ·go_simp
    obtain⟨p5,xp5,e,f,g,Op5⟩:=Zf V 26 [.slice none 0 0];rw[e,f];have Wp5:=hid (show W.heap.size<=p5 by rw[<- e]; exact S0.out.size)
    have Sp5:=hid (bel3 S0.out g);refine hK.out _ _ ?hs8 ?rs8
    case hs8=>exact⟨HA.out _ Sp5.out,fun _=>trivial⟩
    clear hK K e f g; intro hT; try simp only[Act.put,List.setIfInBounds_toArray,List.set]
    refine Xe (i:=9) (j:=17) rfl rfl (by kernel_rfl) (fun K hK=>?_) (fun K hK=>?_)
    ·go_simp
     go_at_call 56
     refine (CS.out _ Sp5.out).mono ?_
     rintro _ xc ⟨⟨a,n1,c1,a2,n2,c2,rfl,hF,hG⟩,gc⟩;obtain⟨B,hB1⟩:∃ B,xp5.heap.size=B:=⟨_,rfl⟩;obtain⟨M,hM1⟩:∃ M,xc.heap.size=M:=⟨_,rfl⟩;rw[hB1,hM1] at hF;have SC:Hid (StF B M R a n1 a2 n2 xc∧W.heap.size<=B∧M<=xc.heap.size):=⟨hF,by rw[<- hB1]; exact Sp5.out.size,Nat.le_of_eq hM1.symm⟩
     have SB:=hid hG;have Fp5:Hid (p5<B∨M<=p5):=.inl (by rw[<- hB1]; exact Op5.out.lt)
     have Op5:=hid (Op5.out.below' gc);refine hK.out _ _ ?hs9 ?rs9
     case hs9=>exact⟨HA.out _ SB.out,fun _=>trivial⟩
     clear hT hK K hF hG gc hB1 hM1; intro hT; try simp only[Act.put,List.setIfInBounds_toArray,List.set]
     refine tkn (i:=10) rfl (by kernel_rfl) (fun _ _ _ h=>h) (by rfl) (by intro w h; (try dsimp only at h); go_simp; first | done | with_reducible rfl) hT ?_
     clear hT; intro hT; try simp only[Act.put,List.setIfInBounds_toArray,List.set]
     refine tkn (i:=11) rfl (by kernel_rfl) (fun _ _ _ h=>h) (by rfl) (by intro w h; (try dsimp only at h); go_simp; first | done | with_reducible rfl) hT ?_
     clear hT; intro hT; try simp only[Act.put,List.setIfInBounds_toArray,List.set]
     refine tkn (i:=12) rfl (by kernel_rfl) (fun _ _ _ h=>h) (by rfl) (by intro w h; (try dsimp only at h); go_simp; first | done | with_reducible rfl) hT ?_
     clear hT; intro hT; try simp only[Act.put,List.setIfInBounds_toArray,List.set]
     refine tkn (i:=13) rfl (by kernel_rfl) (fun _ _ _ h=>h) (by rfl) (by intro w h; (try dsimp only at h); go_simp; first | done | with_reducible rfl) hT ?_
     clear hT; intro hT; try simp only[Act.put,List.setIfInBounds_toArray,List.set]
     refine tkn (i:=14) rfl (by kernel_rfl) (fun _ _ _ h=>h) (by rfl) (by intro w h; (try dsimp only at h); go_simp; first | done | with_reducible rfl) hT ?_
     clear hT; intro hT; try simp only[Act.put,List.setIfInBounds_toArray,List.set]
     refine tkn (i:=15) rfl (by kernel_rfl) (fun _ _ _ h=>h) (by rfl) (by intro w h; (try dsimp only at h); go_simp; first | done | with_reducible rfl) hT ?_
     clear hT; intro hT; try simp only[Act.put,List.setIfInBounds_toArray,List.set]
     refine Z0 (i:=17) rfl (by kernel_rfl) (fun K hK=>?_)
     go_simp;obtain⟨p6,xp6,e,f,g,Op6⟩:=Zf xc 41 [.int .i64 0,.int .i64 0];rw[e,f];have Wp6:=hid (show W.heap.size<=p6 by rw[<- e]; exact SB.out.size)
     have NE:=hid (show p5≠p6 from fun r=>by have:=Op5.out.lt; rw[e] at this; omega)
     have Sp6:=hid (bel3 SB.out g);have Fp6:Hid (p6<B∨M<=p6):=.inr (by rw[<- e]; exact SC.out.2.2)
     have SC:Hid (StF B M R a n1 a2 n2 xp6∧W.heap.size<=B∧M<=xp6.heap.size):=⟨SC.out.1.to g,SC.out.2.1,Nat.le_trans SC.out.2.2 g.size⟩;have Op5:=hid (Op5.out.below' g);refine hK.out _ _ ?hs10 ?rs10
     case hs10=>exact⟨HA.out _ Sp6.out,fun _=>trivial⟩
     clear hT hK K e f g; intro hT; try simp only[Act.put,List.setIfInBounds_toArray,List.set]
     exact key _ p5 p6 a n1 c1 a2 n2 c2 ⟨B,M,Sp6.out,⟨Op5.out,Wp5.out⟩,⟨Op6.out,Wp6.out⟩,SC.out,NE.out,Fp5.out,Fp6.out⟩
    ·go_simp
     obtain⟨p6,xp6,e,f,g,Op6⟩:=Zf xp5 41 [.int .i64 0,.int .i64 0];rw[e,f];have Wp6:=hid (show W.heap.size<=p6 by rw[<- e]; exact Sp5.out.size)
     have NE:=hid (show p5≠p6 from fun r=>by have:=Op5.out.lt; rw[e] at this; omega)
     have Sp6:=hid (bel3 Sp5.out g);have Op5:=hid (Op5.out.below' g);refine hK.out _ _ ?hs11 ?rs11
     case hs11=>exact⟨HA.out _ Sp6.out,fun _=>trivial⟩
     clear hT hK K e f g; intro hT; try simp only[Act.put,List.setIfInBounds_toArray,List.set]
     refine Z0 (i:=9) rfl (by kernel_rfl) (fun K hK=>?_)
     go_simp
     go_at_call 56
     refine (CS.out _ Sp6.out).mono ?_
     rintro _ xc ⟨⟨a,n1,c1,a2,n2,c2,rfl,hF,hG⟩,gc⟩;obtain⟨B,hB1⟩:∃ B,xp6.heap.size=B:=⟨_,rfl⟩;obtain⟨M,hM1⟩:∃ M,xc.heap.size=M:=⟨_,rfl⟩;rw[hB1,hM1] at hF;have SC:Hid (StF B M R a n1 a2 n2 xc∧W.heap.size<=B∧M<=xc.heap.size):=⟨hF,by rw[<- hB1]; exact Sp6.out.size,Nat.le_of_eq hM1.symm⟩
     have SB:=hid hG;have Fp5:Hid (p5<B∨M<=p5):=.inl (by rw[<- hB1]; exact Op5.out.lt)
     have Op5:=hid (Op5.out.below' gc);have Fp6:Hid (p6<B∨M<=p6):=.inl (by rw[<- hB1]; exact Op6.out.lt)
     have Op6:=hid (Op6.out.below' gc);refine hK.out _ _ ?hs12 ?rs12
     case hs12=>exact⟨HA.out _ SB.out,fun _=>trivial⟩
     clear hT hK K hF hG gc hB1 hM1; intro hT; try simp only[Act.put,List.setIfInBounds_toArray,List.set]
     refine tkn (i:=10) rfl (by kernel_rfl) (fun _ _ _ h=>h) (by rfl) (by intro w h; (try dsimp only at h); go_simp; first | done | with_reducible rfl) hT ?_
     clear hT; intro hT; try simp only[Act.put,List.setIfInBounds_toArray,List.set]
     refine tkn (i:=11) rfl (by kernel_rfl) (fun _ _ _ h=>h) (by rfl) (by intro w h; (try dsimp only at h); go_simp; first | done | with_reducible rfl) hT ?_
     clear hT; intro hT; try simp only[Act.put,List.setIfInBounds_toArray,List.set]
     refine tkn (i:=12) rfl (by kernel_rfl) (fun _ _ _ h=>h) (by rfl) (by intro w h; (try dsimp only at h); go_simp; first | done | with_reducible rfl) hT ?_
     clear hT; intro hT; try simp only[Act.put,List.setIfInBounds_toArray,List.set]
     refine tkn (i:=13) rfl (by kernel_rfl) (fun _ _ _ h=>h) (by rfl) (by intro w h; (try dsimp only at h); go_simp; first | done | with_reducible rfl) hT ?_
     clear hT; intro hT; try simp only[Act.put,List.setIfInBounds_toArray,List.set]
     refine tkn (i:=14) rfl (by kernel_rfl) (fun _ _ _ h=>h) (by rfl) (by intro w h; (try dsimp only at h); go_simp; first | done | with_reducible rfl) hT ?_
     clear hT; intro hT; try simp only[Act.put,List.setIfInBounds_toArray,List.set]
     refine tkn (i:=15) rfl (by kernel_rfl) (fun _ _ _ h=>h) (by rfl) (by intro w h; (try dsimp only at h); go_simp; first | done | with_reducible rfl) hT ?_
     clear hT; intro hT; try simp only[Act.put,List.setIfInBounds_toArray,List.set]
     exact key _ p5 p6 a n1 c1 a2 n2 c2 ⟨B,M,SB.out,⟨Op5.out,Wp5.out⟩,⟨Op6.out,Wp6.out⟩,SC.out,NE.out,Fp5.out,Fp6.out⟩
   ·go_simp
    obtain⟨p6,xp6,e,f,g,Op6⟩:=Zf V 41 [.int .i64 0,.int .i64 0];rw[e,f];have Wp6:=hid (show W.heap.size<=p6 by rw[<- e]; exact S0.out.size)
    have Sp6:=hid (bel3 S0.out g);refine hK.out _ _ ?hs13 ?rs13
    case hs13=>exact⟨HA.out _ Sp6.out,fun _=>trivial⟩
    clear hK K e f g; intro hT; try simp only[Act.put,List.setIfInBounds_toArray,List.set]
    refine Xe (i:=9) (j:=16) rfl rfl (by kernel_rfl) (fun K hK=>?_) (fun K hK=>?_)
    ·go_simp
     go_at_call 56
     refine (CS.out _ Sp6.out).mono ?_
     rintro _ xc ⟨⟨a,n1,c1,a2,n2,c2,rfl,hF,hG⟩,gc⟩;obtain⟨B,hB1⟩:∃ B,xp6.heap.size=B:=⟨_,rfl⟩;obtain⟨M,hM1⟩:∃ M,xc.heap.size=M:=⟨_,rfl⟩;rw[hB1,hM1] at hF;have SC:Hid (StF B M R a n1 a2 n2 xc∧W.heap.size<=B∧M<=xc.heap.size):=⟨hF,by rw[<- hB1]; exact Sp6.out.size,Nat.le_of_eq hM1.symm⟩
     have SB:=hid hG;have Fp6:Hid (p6<B∨M<=p6):=.inl (by rw[<- hB1]; exact Op6.out.lt)
     have Op6:=hid (Op6.out.below' gc);refine hK.out _ _ ?hs14 ?rs14
     case hs14=>exact⟨HA.out _ SB.out,fun _=>trivial⟩
     clear hT hK K hF hG gc hB1 hM1; intro hT; try simp only[Act.put,List.setIfInBounds_toArray,List.set]
     refine tkn (i:=10) rfl (by kernel_rfl) (fun _ _ _ h=>h) (by rfl) (by intro w h; (try dsimp only at h); go_simp; first | done | with_reducible rfl) hT ?_
     clear hT; intro hT; try simp only[Act.put,List.setIfInBounds_toArray,List.set]
     refine tkn (i:=11) rfl (by kernel_rfl) (fun _ _ _ h=>h) (by rfl) (by intro w h; (try dsimp only at h); go_simp; first | done | with_reducible rfl) hT ?_
     clear hT; intro hT; try simp only[Act.put,List.setIfInBounds_toArray,List.set]
     refine tkn (i:=12) rfl (by kernel_rfl) (fun _ _ _ h=>h) (by rfl) (by intro w h; (try dsimp only at h); go_simp; first | done | with_reducible rfl) hT ?_
     clear hT; intro hT; try simp only[Act.put,List.setIfInBounds_toArray,List.set]
     refine tkn (i:=13) rfl (by kernel_rfl) (fun _ _ _ h=>h) (by rfl) (by intro w h; (try dsimp only at h); go_simp; first | done | with_reducible rfl) hT ?_
     clear hT; intro hT; try simp only[Act.put,List.setIfInBounds_toArray,List.set]
     refine tkn (i:=14) rfl (by kernel_rfl) (fun _ _ _ h=>h) (by rfl) (by intro w h; (try dsimp only at h); go_simp; first | done | with_reducible rfl) hT ?_
     clear hT; intro hT; try simp only[Act.put,List.setIfInBounds_toArray,List.set]
     refine tkn (i:=15) rfl (by kernel_rfl) (fun _ _ _ h=>h) (by rfl) (by intro w h; (try dsimp only at h); go_simp; first | done | with_reducible rfl) hT ?_
     clear hT; intro hT; try simp only[Act.put,List.setIfInBounds_toArray,List.set]
     refine Z0 (i:=16) rfl (by kernel_rfl) (fun K hK=>?_)
     go_simp;obtain⟨p5,xp5,e,f,g,Op5⟩:=Zf xc 26 [.slice none 0 0];rw[e,f];have Wp5:=hid (show W.heap.size<=p5 by rw[<- e]; exact SB.out.size)
     have NE:=hid (show p5≠p6 from fun r=>by have:=Op6.out.lt; rw[e] at this; omega)
     have Sp5:=hid (bel3 SB.out g);have Fp5:Hid (p5<B∨M<=p5):=.inr (by rw[<- e]; exact SC.out.2.2)
     have SC:Hid (StF B M R a n1 a2 n2 xp5∧W.heap.size<=B∧M<=xp5.heap.size):=⟨SC.out.1.to g,SC.out.2.1,Nat.le_trans SC.out.2.2 g.size⟩;have Op6:=hid (Op6.out.below' g);refine hK.out _ _ ?hs15 ?rs15
     case hs15=>exact⟨HA.out _ Sp5.out,fun _=>trivial⟩
     clear hT hK K e f g; intro hT; try simp only[Act.put,List.setIfInBounds_toArray,List.set]
     exact key _ p5 p6 a n1 c1 a2 n2 c2 ⟨B,M,Sp5.out,⟨Op5.out,Wp5.out⟩,⟨Op6.out,Wp6.out⟩,SC.out,NE.out,Fp5.out,Fp6.out⟩
    ·go_simp
     obtain⟨p5,xp5,e,f,g,Op5⟩:=Zf xp6 26 [.slice none 0 0];rw[e,f];have Wp5:=hid (show W.heap.size<=p5 by rw[<- e]; exact Sp6.out.size)
     have NE:=hid (show p5≠p6 from fun r=>by have:=Op6.out.lt; rw[e] at this; omega)
     have Sp5:=hid (bel3 Sp6.out g);have Op6:=hid (Op6.out.below' g);refine hK.out _ _ ?hs16 ?rs16
     case hs16=>exact⟨HA.out _ Sp5.out,fun _=>trivial⟩
     clear hT hK K e f g; intro hT; try simp only[Act.put,List.setIfInBounds_toArray,List.set]
     refine Z0 (i:=9) rfl (by kernel_rfl) (fun K hK=>?_)
     go_simp
     go_at_call 56
     refine (CS.out _ Sp5.out).mono ?_
     rintro _ xc ⟨⟨a,n1,c1,a2,n2,c2,rfl,hF,hG⟩,gc⟩;obtain⟨B,hB1⟩:∃ B,xp5.heap.size=B:=⟨_,rfl⟩;obtain⟨M,hM1⟩:∃ M,xc.heap.size=M:=⟨_,rfl⟩;rw[hB1,hM1] at hF;have SC:Hid (StF B M R a n1 a2 n2 xc∧W.heap.size<=B∧M<=xc.heap.size):=⟨hF,by rw[<- hB1]; exact Sp5.out.size,Nat.le_of_eq hM1.symm⟩
     have SB:=hid hG;have Fp5:Hid (p5<B∨M<=p5):=.inl (by rw[<- hB1]; exact Op5.out.lt)
     have Op5:=hid (Op5.out.below' gc);have Fp6:Hid (p6<B∨M<=p6):=.inl (by rw[<- hB1]; exact Op6.out.lt)
     have Op6:=hid (Op6.out.below' gc);refine hK.out _ _ ?hs17 ?rs17
     case hs17=>exact⟨HA.out _ SB.out,fun _=>trivial⟩
     clear hT hK K hF hG gc hB1 hM1; intro hT; try simp only[Act.put,List.setIfInBounds_toArray,List.set]
     refine tkn (i:=10) rfl (by kernel_rfl) (fun _ _ _ h=>h) (by rfl) (by intro w h; (try dsimp only at h); go_simp; first | done | with_reducible rfl) hT ?_
     clear hT; intro hT; try simp only[Act.put,List.setIfInBounds_toArray,List.set]
     refine tkn (i:=11) rfl (by kernel_rfl) (fun _ _ _ h=>h) (by rfl) (by intro w h; (try dsimp only at h); go_simp; first | done | with_reducible rfl) hT ?_
     clear hT; intro hT; try simp only[Act.put,List.setIfInBounds_toArray,List.set]
     refine tkn (i:=12) rfl (by kernel_rfl) (fun _ _ _ h=>h) (by rfl) (by intro w h; (try dsimp only at h); go_simp; first | done | with_reducible rfl) hT ?_
     clear hT; intro hT; try simp only[Act.put,List.setIfInBounds_toArray,List.set]
     refine tkn (i:=13) rfl (by kernel_rfl) (fun _ _ _ h=>h) (by rfl) (by intro w h; (try dsimp only at h); go_simp; first | done | with_reducible rfl) hT ?_
     clear hT; intro hT; try simp only[Act.put,List.setIfInBounds_toArray,List.set]
     refine tkn (i:=14) rfl (by kernel_rfl) (fun _ _ _ h=>h) (by rfl) (by intro w h; (try dsimp only at h); go_simp; first | done | with_reducible rfl) hT ?_
     clear hT; intro hT; try simp only[Act.put,List.setIfInBounds_toArray,List.set]
     refine tkn (i:=15) rfl (by kernel_rfl) (fun _ _ _ h=>h) (by rfl) (by intro w h; (try dsimp only at h); go_simp; first | done | with_reducible rfl) hT ?_
     clear hT; intro hT; try simp only[Act.put,List.setIfInBounds_toArray,List.set]
     exact key _ p5 p6 a n1 c1 a2 n2 c2 ⟨B,M,SB.out,⟨Op5.out,Wp5.out⟩,⟨Op6.out,Wp6.out⟩,SC.out,NE.out,Fp5.out,Fp6.out⟩
  case key=>
   intro x p5 p6 a n1 c1 a2 n2 c2 S;obtain⟨B,M,S⟩:=S;replace S:=hid S;clear S0;have c5:=S.out.2.1.1.cell (i:=0) rfl;have z5:=S.out.2.1.1.free 0;refine Z0 (i:=18) rfl (by kernel_rfl) (fun K hK=>?_)
   go_simp;clear c5 z5;have T5:=hid (And.intro (S.out.2.1.1.set (i:=0) (by simp) (.slice a n1 c1)) (And.intro (S.out.2.2.1.1.other (p:=⟨p5,0,none⟩) (fun q=>S.out.2.2.2.2.1 q.symm) (.slice a n1 c1)) (And.intro (S.out.2.2.2.1.1.set (S.out.2.1.1.cell (i:=0) rfl) (.inr (.inr rfl)) S.out.2.2.2.2.2.1 (.slice a n1 c1)) (S.out.1.setCell (p:=⟨p5,0,none⟩) S.out.2.1.2 (.slice a n1 c1)))))
   obtain⟨y1,hy1⟩:∃ y,x.setCell ⟨p5,0,none⟩ (.slice a n1 c1)=y:=⟨_,rfl⟩;rw[hy1] at T5 ⊢;clear hy1;refine hK.out _ _ ?hs1 ?rs1
   case hs1=>exact⟨HA.out _ T5.out.2.2.2,fun _=>trivial⟩
   clear hK K; intro hT; try simp only[Act.put,List.setIfInBounds_toArray,List.set]
   have c6:=T5.out.2.1.cell (i:=0) rfl;have c7:=T5.out.2.1.cell (i:=1) rfl;have z6:=T5.out.2.1.free 0;have z7:=T5.out.2.1.free 1;refine Z0 (i:=19) rfl (by kernel_rfl) (fun K hK=>?_)
   go_simp;clear c6 c7 z6 z7;have T6:=hid (Z3v T5.out.1 T5.out.2.1 T5.out.2.2.1 T5.out.2.2.2 S.out.2.2.2.2.1 S.out.2.2.2.2.2.2 S.out.2.2.1.2 R.nx R.rd);obtain⟨y2,hy2⟩:∃ y,(y1.setCell ⟨p6,0,none⟩ (.int .i64 R.nx)).setCell ⟨p6,1,none⟩ (.int .i64 R.rd)=y:=⟨_,rfl⟩;rw[hy2] at T6 ⊢;have HBW:=hid (And.intro S.out.2.2.2.1.2.1 (And.intro S.out.2.1.2 S.out.2.2.1.2));clear hy2 T5 S;refine hK.out _ _ ?hs2 ?rs2
   case hs2=>exact⟨HA.out _ T6.out.2.2.2.2,fun _=>trivial⟩
   clear hT hK K; intro hT; try simp only[Act.put,List.setIfInBounds_toArray,List.set]
   refine tkn (i:=20) rfl (by kernel_rfl) (fun _ _ _ h=>h) (by rfl) (by intro w h; (try dsimp only at h); go_simp; first | done | with_reducible rfl) hT ?_
   clear hT; intro hT; try simp only[Act.put,List.setIfInBounds_toArray,List.set]
   refine tkn (i:=21) rfl (by kernel_rfl) (fun _ _ _ h=>h) (by rfl) (by intro w h; (try dsimp only at h); go_simp; first | done | with_reducible rfl) hT ?_
   clear hT; intro hT; try simp only[Act.put,List.setIfInBounds_toArray,List.set]
   refine tkn (i:=22) rfl (by kernel_rfl) (fun _ _ _ h=>h) (by rfl) (by intro w h; (try dsimp only at h); go_simp; first | done | with_reducible rfl) hT ?_
   clear hT; intro hT; try simp only[Act.put,List.setIfInBounds_toArray,List.set]
   refine Zw (by kernel_rfl) ?_ _
   go_wp2_with fail
   go_meet
   exact⟨a,n1,c1,a2,n2,c2,p5,p6,B,M,rfl,rfl,rfl,rfl,rfl,T6.out.2.2.2.1,HBW.out,⟨T6.out.1,T6.out.2.1,T6.out.2.2.1⟩,T6.out.2.2.2.2⟩
 case rest=>
  obtain⟨a,n1,c1,a2,n2,c2,p5,p6,B,M,rfl,rfl,rfl,rfl,rfl,hF,⟨hB,hp5,hp6⟩,⟨c5,c6,c7⟩,hG⟩:=hcut;clear d0 d1 d2 HA CS;have hpB:p<B:=Nat.lt_of_lt_of_le HPL.out hB;have O4:=HP.out.2.1.below' hG;have S1:=HP.out.2.2.1.below hG;have hpw:=HP.out.2.2.2;have n5:p≠p5:=by have:=HPL.out; omega
  have n6:p≠p6:=by have:=HPL.out; omega
  have n5':p5≠p:=fun e=>n5 e.symm
  have n6':p6≠p:=fun e=>n6 e.symm
  clear hp5 hp6;have hC1:Chg (fun j=>j=p) w _:=(chg_below (fun j=>j=p) HP.out.1).to hG
  by_cases e0:R.e=0
  ·have hm:=HM.out e0
   obtain⟨rfl,b,o,hd,rfl,HX⟩:=Z8 hF.arr hm;have hb:b≠p:=by have:=hF.new (by omega) b o none rfl; omega
   have Z:=hid (Z2U (c:=c1) S1 HX hm hb hF.int hF.newI hpB O4 (by omega) hC1 R.nx R.rd)
   obtain⟨v0,⟨d0,d1,d2⟩,g0,g1,g2⟩:=Z67 S1;have e1:(R.e != 0)=false:=bne_eq_false_iff_eq.2 e0;have HN:=hid (And.intro hB hF.newI);have HE:=hid e0;clear hF hG hC1 S1 O4 HX e0 hm HM;go_upto_region 4 with fail
   go_region
   obtain⟨V9,hV9⟩:∃ V9,V9=((wc.setCell ⟨p,0,none⟩ (.slice (some ⟨b,o,none⟩) 3 c1)).setCell ⟨p,1,none⟩ (.int .i64 R.nx)).setCell ⟨p,2,none⟩ (.int .i64 R.rd):=⟨_,rfl⟩;rw[<- hV9] at Z ⊢;clear hV9 d0 d1 d2 g0 g1 g2 c5 c6 c7;have O4:=Z.out.2.2.1;have v0:=O4.cell (i:=0) rfl;have f0:=O4.free 0;have v1:=O4.cell (i:=1) rfl;have f1:=O4.free 1;have v2:=O4.cell (i:=2) rfl;have f2:=O4.free 2;have v3:=O4.cell (i:=3) rfl;have f3:=O4.free 3;have v4:=O4.cell (i:=4) rfl;have f4:=O4.free 4;have HY:=ZJ O4 (.int .i64 0) (.string ⟨#[]⟩) (.slice none 0 0) (.int .i64 R.ct) (.slice a2 n2 c2);obtain⟨y0,y1,y2,y3,y4⟩:=HY.1;clear HY O4;go_wp2
   refine bodyPost_ret (v:=.agg #[.int .i64 0,.string ⟨#[]⟩,.slice none 0 0,.int .i64 R.ct,.slice a2 n2 c2]) (by simp[results,Tryz.results26,go_sem,y0,y1,y2,y3,y4]) rfl ?_
   rw[<- HRA.out,if_pos HE.out];exact Wm.drew (Z46 Z.out.2.2.1 Z.out.1 hpw (Nat.le_refl _) Z.out.2.2.2 ⟨⟨0,[],[],R.ct,R.gone⟩,nilS,⟨a2,n2,c2⟩⟩ ⟨Zd.nil,rfl,Nat.zero_le _,Z.out.2.1⟩ ⟨newS_nil _ _,HN.out.2.less (by have:=HN.out.1; have:=HPL.out; have:=HP.out.1.size; have:=HP.out.2.1.lt; omega)⟩)
  ·have e1:(R.e != 0)=true:=bne_iff_ne.2 e0
   have Z:=hid (And.intro O4 (And.intro S1 hC1));have HE:=hid e0;clear hF hG hC1 S1 c5 c6 c7 HM;have v0:=O4.cell (i:=0) rfl;have f0:=O4.free 0;have v1:=O4.cell (i:=1) rfl;have f1:=O4.free 1;have v2:=O4.cell (i:=2) rfl;have f2:=O4.free 2;have v3:=O4.cell (i:=3) rfl;have f3:=O4.free 3;have v4:=O4.cell (i:=4) rfl;have f4:=O4.free 4;have HY:=ZJ O4 (.int .i64 R.e) (.string ⟨#[]⟩) (.slice none 0 0) (.int .i64 0) (.slice none 0 0);obtain⟨y0,y1,y2,y3,y4⟩:=HY.1;clear HY O4 e0;go_wp2
   refine bodyPost_ret (v:=.agg #[.int .i64 R.e,.string ⟨#[]⟩,.slice none 0 0,.int .i64 0,.slice none 0 0]) (by simp[results,Tryz.results26,go_sem,y0,y1,y2,y3,y4]) rfl ?_
   rw[<- HRA.out,if_neg HE.out];exact Z46 Z.out.1 Z.out.2.1 hpw (Nat.le_refl _) Z.out.2.2 (nxE R.e) (nxE_ok _ _) (nxE_new _ _)
end Go.Proofs.YtdnacpbgodooaaaGreatDoor
namespace Go.Proofs.YtdnacpbgodooaaaGreatDoor
open Go.RowKit Go.Lib
structure DoI (w:World) (p:Nat) (h:Ha) (q:Ax) (W:World):Prop where
 ax:Own W w.heap.size 46 (axC q)
 an:Own W (w.heap.size+1) 34 zero5
 se:Se W p h
 lt:w.heap.size+2<=W.heap.size
 pl:p<w.heap.size
 chg:Chg (fun j=>j=p) w W
theorem Xm {w:World} {p:Nat} {h:Ha} (q:Ax) (H:Se w p h):DoI w p h q ((w.alloc (.cells (axC q).toArray 46)).alloc (.cells zero5.toArray 34))∧Below w.heap.size w ((w.alloc (.cells (axC q).toArray 46)).alloc (.cells zero5.toArray 34)):=by
 have b1:Below w.heap.size w (w.alloc (.cells (axC q).toArray 46)):=(Below.refl _ w).alloc (Nat.le_refl _) _;have hB:Below w.heap.size w ((w.alloc (.cells (axC q).toArray 46)).alloc (.cells zero5.toArray 34)):=b1.alloc b1.size _;have o5:=Own.made (w.alloc (.cells (axC q).toArray 46)) 34 zero5;rw[show (w.alloc (.cells (axC q).toArray 46)).heap.size=w.heap.size+1 by simp] at o5
 exact⟨⟨(Own.made w 46 (axC q)).alloc _,o5,H.below hB,by simp,H.lt,chg_below _ hB⟩,hB⟩
section
variable {w W W':World} {p:Nat} {h h':Ha} {q:Ax}
theorem DoI.to (H:DoI w p h q W) (g:Below W.heap.size W W'):DoI w p h q W':=⟨H.ax.below' g,H.an.below' g,H.se.below g,Nat.le_trans H.lt g.size,H.pl,H.chg.to g⟩
theorem DoI.kept (H:DoI w p h q W) (hs:Se W' p h') (g:Chg (fun j=>j=p) W W'):DoI w p h' q W':=by
 have pl:=H.pl;have l:=H.lt;exact⟨H.ax.of_block (g.block _ (by omega) (by omega)),H.an.of_block (g.block _ (by omega) (by omega)),hs,Nat.le_trans l g.size,pl,H.chg.step g⟩
theorem DoI.out (H:DoI w p h q W) (x:Nx) (hx:NxOk W x) (hn:YO (w.heap.size+2) x):
  Wm w p (h,x.r) (.returned (nxA x)) (((((W.setCell ⟨w.heap.size+1,0,none⟩ (.int .i64 x.r.code)).setCell ⟨w.heap.size+1,1,none⟩ (.string (str x.r.data))).setCell ⟨w.heap.size+1,2,none⟩ (.slice x.f.a x.f.n x.f.c)).setCell ⟨w.heap.size+1,3,none⟩ (.int .i64 x.r.count)).setCell ⟨w.heap.size+1,4,none⟩ (.slice x.g.a x.g.n x.g.c)):=by
 have pl:=H.pl;have l:=H.lt;have k:=XF H.an (.int .i64 x.r.code) (.string (str x.r.data)) (.slice x.f.a x.f.n x.f.c) (.int .i64 x.r.count) (.slice x.g.a x.g.n x.g.c);have c1:=((((((Chg.refl (fun j=>j=w.heap.size+1) W).set (p:=w.heap.size+1) rfl 0 (.int .i64 x.r.code)).set (p:=w.heap.size+1) rfl 1 (.string (str x.r.data))).set (p:=w.heap.size+1) rfl 2 (.slice x.f.a x.f.n x.f.c)).set (p:=w.heap.size+1) rfl 3 (.int .i64 x.r.count)).set (p:=w.heap.size+1) rfl 4 (.slice x.g.a x.g.n x.g.c))
 have hp:p<W.heap.size:=H.se.lt;refine⟨x,rfl,rfl,?_,⟨hn.1.less (by omega),hn.2.less (by omega)⟩,H.se.keepz k (c1.block p hp (by omega)),chg_ret5 H.chg (by omega) _ _ _ _ _⟩
 refine hx.grown (row:=some (w.heap.size+1)) (hn.off (fun g e=>by cases e; omega)) ⟨c1.os,c1.tape,c1.output,c1.size,fun k hk hne=>c1.block k hk (fun e=>hne (by rw[e]))⟩
end
theorem XX {w0 w:World} {r:Ar × Int} {x:Option Addr} {n p:Nat} (hp:p<w0.heap.size) (hX:(n=0∧r.1=[]∧x=none)∨∃ b h,x=some ⟨b,0,none⟩∧w0.heap.size<=b∧Z4 w b 0 n h r.1) (hm:r.2=0->Z2 r.1=true):
  r.2=0->∃ b o hd,x=some ⟨b,o,none⟩∧n=3∧Arr w b o 3 hd r.1∧b≠p∧Z2 r.1=true:=by
 intro e;have h3:=((arMay_iff _).1 (hm e)).1
 rcases hX with ⟨_,h1,_⟩ | ⟨b,hd,h1,h2,h4⟩
 ·rw[h1] at h3; cases h3
 ·have hn:n=3:=by rw[h4.arr.sn]; exact h3
  subst hn;exact⟨b,0,hd,h1,rfl,h4.arr,by omega,hm e⟩
theorem Z2p (A:Ar) (hm:Z2 A=true) (d:Int) (X:Dv × Int) (hX:X.2=0->dvMay X.1=true∧X.1.1.length=(dev A d.toNat).1.length) (h:(chgA A d X).2=0):Z2 (chgA A d X).1=true:=by
 unfold chgA at h ⊢
 split at h
 ·rename_i hd
  rw[if_pos hd]
  split at h
  ·rename_i e
   rw[if_pos e];exact (U1 A hm d.toNat (by omega) _ (hX e).1 (hX e).2).1
  ·rename_i e
   exact absurd h e
 ·cases h
theorem Wt (A:Ar) (F:List Fi) (s:ByteArray) (d n a b:Int):Tm A ⟨4,F,s,d,n,a,b⟩=dvLose (dev A d.toNat) n:=by
 show (if (4:Int)=5 then _ else dvLose (dev A d.toNat) n)=_
 rw[if_neg (by decide)]
theorem Ws (A:Ar) (F:List Fi) (s:ByteArray) (d n a b:Int):Tm A ⟨5,F,s,d,n,a,b⟩=dvTurn (dev A d.toNat) n a b:=by
 show (if (5:Int)=5 then dvTurn (dev A d.toNat) n a b else _)=_
 rw[if_pos rfl]
theorem Z27 (h:Ha) (x:Ac) (X:Dv × Int) (hX:Tm h.A x=X):Xs h x=(if (chgA h.A x.d X).2=0 then ((⟨(chgA h.A x.d X).1,h.nx,h.rd⟩:Ha),anE 0) else (h,anE (chgA h.A x.d X).2)):=by
 unfold Xs chgA;rw[hX]
 by_cases hd:0<=x.d∧x.d<=2
 ·rw[if_pos hd,if_pos hd]
  by_cases e:X.2=0
  ·rw[if_pos e,if_pos e,if_pos rfl]
  ·rw[if_neg e,if_neg e,if_neg e]
 ·rw[if_neg hd,if_neg hd,if_neg (by decide)]
theorem Qq (h:Ha) (r:Ar × Int):(if r.2=0 then ((⟨r.1,h.nx,h.rd⟩:Ha),anE 0) else (h,anE r.2))=(if r.2=0 then (⟨r.1,h.nx,h.rd⟩:Ha) else h,anE r.2):=by
 split
 ·rename_i e; rw[e]
 ·rfl
section
variable (p:Nat) (h:Ha) (w:World)
theorem do_add (F:List Fi) (s:ByteArray) (d n at_ by_:Int) (fa:Option Addr) (fn fc:Nat) (H:Se w p h) (hF:fn<=fc∧ZV w fa fn F):
  Calls Tryz.prog 10 #[.pointer (some ⟨p,0,none⟩),.agg #[.int .i64 1,.slice fa fn fc,.string s,.int .i64 d,.int .i64 n,.int .i64 at_,.int .i64 by_]] w (Wm w p (Z0q h F)):=by
 obtain⟨S0,B0⟩:=Xm ⟨⟨1,F,s,d,n,at_,by_⟩,⟨fa,fn,fc⟩⟩ H;obtain⟨W,hW⟩:∃ W,W=(w.alloc (.cells (axC ⟨⟨1,F,s,d,n,at_,by_⟩,⟨fa,fn,fc⟩⟩).toArray 46)).alloc (.cells zero5.toArray 34):=⟨_,rfl⟩;rw[<- hW] at S0 B0;have hW':W=(w.alloc (.cells #[.int .i64 1,.slice fa fn fc,.string s,.int .i64 d,.int .i64 n,.int .i64 at_,.int .i64 by_] 46)).alloc (.cells #[.int .i64 0,.string ⟨#[]⟩,.slice none 0 0,.int .i64 0,.slice none 0 0] 34):=hW;clear hW;obtain⟨b0,o0,cc,hd0,h1,h2,h3⟩:=S0.se.ex;have d0:=h1.cell (i:=0) rfl;have x0:=S0.ax.cell (i:=0) rfl;have x1:=S0.ax.cell (i:=1) rfl;unfold Z0q;have CA:=hid (fun wx (g:Below W.heap.size W wx)=>Z7b (some ⟨b0,o0,none⟩) 3 cc h.A fa fn fc F wx (.inr ⟨b0,o0,hd0,rfl,h2.below g⟩) ((hF.2.below B0).below g) hF.1)
 have HM:=hid (Z5R h.A F);generalize addA h.A F=r at CA HM;have HP:=hid (And.intro S0 B0);rw[Qq];obtain⟨ra,hra⟩:∃ ra:Ha × An,(if r.2=0 then (⟨r.1,h.nx,h.rd⟩:Ha) else h,anE r.2)=ra:=⟨_,rfl⟩
 rw[hra];have HRA:=hid hra;clear hra;clear h1 h2 h3 H S0 B0;go_enter Tryz.func10,Tryz.ntmps10
 go_upto_region 1 with fail
 rw[<- hW'];clear hW';go_wp2_with fail
 go_region_with (first
  | (go_at_call 17; refine (CA.out _ (by go_grown)).mono ?_; rintro _ w3 ⟨⟨x,n1,e1,rfl,hX⟩,g3⟩; (have S3:=hid (HP.out.1.to (by first | exact g3 | exact undrew g3))); (have hX3:=hid hX); clear hX g3)
  | (go_at_call 16; refine (Ug p h _ _ _ r.2 r.1 _ S3.out.se (XX (w0:=W) (by have:=S3.out.pl; have:=HP.out.1.lt; omega) hX3.out HM.out)).mono ?_; rintro _ w4 ⟨rfl,s4,c4⟩; (have S4:=hid (S3.out.kept s4 c4)); (obtain⟨⟨y0,y1,y2,y3,y4⟩,_⟩:=ZJ S4.out.an (.int .i64 r.2) (.string ⟨#[]⟩) (.slice none 0 0) (.int .i64 0) (.slice none 0 0)); clear s4 c4; (have v0:=S4.out.an.cell (i:=0) rfl); (have f0:=S4.out.an.free 0); (have v1:=S4.out.an.cell (i:=1) rfl); (have f1:=S4.out.an.free 1); (have v2:=S4.out.an.cell (i:=2) rfl); (have f2:=S4.out.an.free 2); (have v3:=S4.out.an.cell (i:=3) rfl); (have f3:=S4.out.an.free 3); (have v4:=S4.out.an.cell (i:=4) rfl); (have f4:=S4.out.an.free 4)))
 all_goals go_wp2
 all_goals refine bodyPost_ret (v:=.agg #[.int .i64 r.2,.string ⟨#[]⟩,.slice none 0 0,.int .i64 0,.slice none 0 0]) (by simp[results,Tryz.results10,go_sem,y0,y1,y2,y3,y4]) rfl ?_
 all_goals rw[<- HRA.out]
 all_goals exact S4.out.out (nxE r.2) (nxE_ok _ _) (nxE_new _ _)
theorem do_new (F:List Fi) (s:ByteArray) (d n at_ by_:Int) (fa:Option Addr) (fn fc:Nat) (H:Se w p h):
  Calls Tryz.prog 10 #[.pointer (some ⟨p,0,none⟩),.agg #[.int .i64 6,.slice fa fn fc,.string s,.int .i64 d,.int .i64 n,.int .i64 at_,.int .i64 by_]] w (Wm w p (Z0o h d)):=by
 obtain⟨S0,B0⟩:=Xm ⟨⟨6,F,s,d,n,at_,by_⟩,⟨fa,fn,fc⟩⟩ H;obtain⟨W,hW⟩:∃ W,W=(w.alloc (.cells (axC ⟨⟨6,F,s,d,n,at_,by_⟩,⟨fa,fn,fc⟩⟩).toArray 46)).alloc (.cells zero5.toArray 34):=⟨_,rfl⟩;rw[<- hW] at S0 B0;have hW':W=(w.alloc (.cells #[.int .i64 6,.slice fa fn fc,.string s,.int .i64 d,.int .i64 n,.int .i64 at_,.int .i64 by_] 46)).alloc (.cells #[.int .i64 0,.string ⟨#[]⟩,.slice none 0 0,.int .i64 0,.slice none 0 0] 34):=hW;clear hW;obtain⟨b0,o0,cc,hd0,h1,h2,h3⟩:=S0.se.ex;have d0:=h1.cell (i:=0) rfl;have x0:=S0.ax.cell (i:=0) rfl;have x1:=S0.ax.cell (i:=3) rfl;unfold Z0o;have CA:=hid (fun wx (g:Below W.heap.size W wx)=>QO (some ⟨b0,o0,none⟩) 3 cc d h.A wx (.inr ⟨b0,o0,hd0,rfl,h2.below g⟩))
 have HM:=hid (UE h.A d);generalize arReplace h.A d=r at CA HM;have HP:=hid (And.intro S0 B0);rw[Qq];obtain⟨ra,hra⟩:∃ ra:Ha × An,(if r.2=0 then (⟨r.1,h.nx,h.rd⟩:Ha) else h,anE r.2)=ra:=⟨_,rfl⟩
 rw[hra];have HRA:=hid hra;clear hra;clear h1 h2 h3 H S0 B0;go_enter Tryz.func10,Tryz.ntmps10
 go_upto_region 1 with fail
 rw[<- hW'];clear hW';go_wp2_with fail
 go_region_with (first
  | (go_at_call 25; refine (CA.out _ (by go_grown)).mono ?_; rintro _ w3 ⟨⟨x,n1,e1,rfl,hX⟩,g3⟩; (have S3:=hid (HP.out.1.to (by first | exact g3 | exact undrew g3))); (have hX3:=hid hX); clear hX g3)
  | (go_at_call 16; refine (Ug p h _ _ _ r.2 r.1 _ S3.out.se (XX (w0:=W) (by have:=S3.out.pl; have:=HP.out.1.lt; omega) hX3.out HM.out)).mono ?_; rintro _ w4 ⟨rfl,s4,c4⟩; (have S4:=hid (S3.out.kept s4 c4)); (obtain⟨⟨y0,y1,y2,y3,y4⟩,_⟩:=ZJ S4.out.an (.int .i64 r.2) (.string ⟨#[]⟩) (.slice none 0 0) (.int .i64 0) (.slice none 0 0)); clear s4 c4; (have v0:=S4.out.an.cell (i:=0) rfl); (have f0:=S4.out.an.free 0); (have v1:=S4.out.an.cell (i:=1) rfl); (have f1:=S4.out.an.free 1); (have v2:=S4.out.an.cell (i:=2) rfl); (have f2:=S4.out.an.free 2); (have v3:=S4.out.an.cell (i:=3) rfl); (have f3:=S4.out.an.free 3); (have v4:=S4.out.an.cell (i:=4) rfl); (have f4:=S4.out.an.free 4)))
 all_goals go_wp2
 all_goals refine bodyPost_ret (v:=.agg #[.int .i64 r.2,.string ⟨#[]⟩,.slice none 0 0,.int .i64 0,.slice none 0 0]) (by simp[results,Tryz.results10,go_sem,y0,y1,y2,y3,y4]) rfl ?_
 all_goals rw[<- HRA.out]
 all_goals exact S4.out.out (nxE r.2) (nxE_ok _ _) (nxE_new _ _)
theorem Z8e (F:List Fi) (s:ByteArray) (d n at_ by_:Int) (fa:Option Addr) (fn fc:Nat) (H:Se w p h):
  Calls Tryz.prog 10 #[.pointer (some ⟨p,0,none⟩),.agg #[.int .i64 4,.slice fa fn fc,.string s,.int .i64 d,.int .i64 n,.int .i64 at_,.int .i64 by_]] w (Wm w p (Xs h ⟨4,F,s,d,n,at_,by_⟩)):=by
 obtain⟨S0,B0⟩:=Xm ⟨⟨4,F,s,d,n,at_,by_⟩,⟨fa,fn,fc⟩⟩ H;obtain⟨W,hW⟩:∃ W,W=(w.alloc (.cells (axC ⟨⟨4,F,s,d,n,at_,by_⟩,⟨fa,fn,fc⟩⟩).toArray 46)).alloc (.cells zero5.toArray 34):=⟨_,rfl⟩;rw[<- hW] at S0 B0;have hW':W=(w.alloc (.cells #[.int .i64 4,.slice fa fn fc,.string s,.int .i64 d,.int .i64 n,.int .i64 at_,.int .i64 by_] 46)).alloc (.cells #[.int .i64 0,.string ⟨#[]⟩,.slice none 0 0,.int .i64 0,.slice none 0 0] 34):=hW;clear hW;obtain⟨b0,o0,cc,hd0,h1,h2,h3⟩:=S0.se.ex;have d0:=h1.cell (i:=0) rfl;have x0:=S0.ax.cell (i:=0) rfl;have x1:=S0.ax.cell (i:=3) rfl;have hX:(dvLose (dev h.A d.toNat) n).2=0->dvMay (dvLose (dev h.A d.toNat) n).1=true∧(dvLose (dev h.A d.toNat) n).1.1.length=(dev h.A d.toNat).1.length:=fun e=>by
  have:=YI h.A ⟨4,F,s,d,n,at_,by_⟩
  rw[Wt] at this;exact this e
 have eA:=Z27 h ⟨4,F,s,d,n,at_,by_⟩ _ (Wt h.A F s d n at_ by_);dsimp only at eA;rw[eA];clear eA;have CA:=hid (fun wx (g:Below W.heap.size W wx)=>Uz b0 o0 cc hd0 d 21 #[.pointer (some ⟨w.heap.size,0,none⟩)] h.A (dvLose (dev h.A d.toNat) n) wx (h2.below g) S0.se.may (enters_of Tryz.func21 (by kernel_rfl) rfl) (fun _ w1 g1 x n1 e y m e' hD=>Z45 x n1 e y m e' w.heap.size n (dev h.A d.toNat) w1 hD ((g1.cell (p:=⟨w.heap.size,4,none⟩) (by have:=S0.lt; have:=g.size; show w.heap.size<wx.heap.size; omega)).trans ((S0.ax.below' g).cell (i:=4) rfl)) (by have:=S0.lt; have:=g.size; have:=g1.size; omega)))
 have HM:=hid (Z2p h.A S0.se.may d (dvLose (dev h.A d.toNat) n) hX);generalize chgA h.A d (dvLose (dev h.A d.toNat) n)=r at CA HM;have HP:=hid (And.intro S0 B0);rw[Qq];obtain⟨ra,hra⟩:∃ ra:Ha × An,(if r.2=0 then (⟨r.1,h.nx,h.rd⟩:Ha) else h,anE r.2)=ra:=⟨_,rfl⟩
 rw[hra];have HRA:=hid hra;clear hra;clear h1 h2 h3 H S0 B0;go_enter Tryz.func10,Tryz.ntmps10
 go_upto_region 1 with fail
 rw[<- hW'];clear hW';go_wp2_with fail
 go_region_with (first
  | (go_at_call 20; refine (CA.out _ (by go_grown)).mono ?_; rintro _ w3 ⟨⟨x,n1,e1,rfl,hX⟩,g3⟩; (have S3:=hid (HP.out.1.to (by first | exact g3 | exact undrew g3))); (have hX3:=hid hX); clear hX g3)
  | (go_at_call 16; refine (Ug p h _ _ _ r.2 r.1 _ S3.out.se (XX (w0:=W) (by have:=S3.out.pl; have:=HP.out.1.lt; omega) hX3.out HM.out)).mono ?_; rintro _ w4 ⟨rfl,s4,c4⟩; (have S4:=hid (S3.out.kept s4 c4)); (obtain⟨⟨y0,y1,y2,y3,y4⟩,_⟩:=ZJ S4.out.an (.int .i64 r.2) (.string ⟨#[]⟩) (.slice none 0 0) (.int .i64 0) (.slice none 0 0)); clear s4 c4; (have v0:=S4.out.an.cell (i:=0) rfl); (have f0:=S4.out.an.free 0); (have v1:=S4.out.an.cell (i:=1) rfl); (have f1:=S4.out.an.free 1); (have v2:=S4.out.an.cell (i:=2) rfl); (have f2:=S4.out.an.free 2); (have v3:=S4.out.an.cell (i:=3) rfl); (have f3:=S4.out.an.free 3); (have v4:=S4.out.an.cell (i:=4) rfl); (have f4:=S4.out.an.free 4)))
 all_goals go_wp2
 all_goals refine bodyPost_ret (v:=.agg #[.int .i64 r.2,.string ⟨#[]⟩,.slice none 0 0,.int .i64 0,.slice none 0 0]) (by simp[results,Tryz.results10,go_sem,y0,y1,y2,y3,y4]) rfl ?_
 all_goals rw[<- HRA.out]
 all_goals exact S4.out.out (nxE r.2) (nxE_ok _ _) (nxE_new _ _)
theorem Z8c (F:List Fi) (s:ByteArray) (d n at_ by_:Int) (fa:Option Addr) (fn fc:Nat) (H:Se w p h):
  Calls Tryz.prog 10 #[.pointer (some ⟨p,0,none⟩),.agg #[.int .i64 5,.slice fa fn fc,.string s,.int .i64 d,.int .i64 n,.int .i64 at_,.int .i64 by_]] w (Wm w p (Xs h ⟨5,F,s,d,n,at_,by_⟩)):=by
 obtain⟨S0,B0⟩:=Xm ⟨⟨5,F,s,d,n,at_,by_⟩,⟨fa,fn,fc⟩⟩ H;obtain⟨W,hW⟩:∃ W,W=(w.alloc (.cells (axC ⟨⟨5,F,s,d,n,at_,by_⟩,⟨fa,fn,fc⟩⟩).toArray 46)).alloc (.cells zero5.toArray 34):=⟨_,rfl⟩;rw[<- hW] at S0 B0;have hW':W=(w.alloc (.cells #[.int .i64 5,.slice fa fn fc,.string s,.int .i64 d,.int .i64 n,.int .i64 at_,.int .i64 by_] 46)).alloc (.cells #[.int .i64 0,.string ⟨#[]⟩,.slice none 0 0,.int .i64 0,.slice none 0 0] 34):=hW;clear hW;obtain⟨b0,o0,cc,hd0,h1,h2,h3⟩:=S0.se.ex;have d0:=h1.cell (i:=0) rfl;have x0:=S0.ax.cell (i:=0) rfl;have x1:=S0.ax.cell (i:=3) rfl;have hX:(dvTurn (dev h.A d.toNat) n at_ by_).2=0->dvMay (dvTurn (dev h.A d.toNat) n at_ by_).1=true∧(dvTurn (dev h.A d.toNat) n at_ by_).1.1.length=(dev h.A d.toNat).1.length:=fun e=>by
  have:=YI h.A ⟨5,F,s,d,n,at_,by_⟩
  rw[Ws] at this;exact this e
 have eA:=Z27 h ⟨5,F,s,d,n,at_,by_⟩ _ (Ws h.A F s d n at_ by_);dsimp only at eA;rw[eA];clear eA;have CA:=hid (fun wx (g:Below W.heap.size W wx)=>Uz b0 o0 cc hd0 d 23 #[.pointer (some ⟨w.heap.size,0,none⟩)] h.A (dvTurn (dev h.A d.toNat) n at_ by_) wx (h2.below g) S0.se.may (enters_of Tryz.func23 (by kernel_rfl) rfl) (fun _ w1 g1 x n1 e y m e' hD=>Z3W x n1 e y m e' w.heap.size n at_ by_ (dev h.A d.toNat) w1 hD ⟨((g1.cell (p:=⟨w.heap.size,4,none⟩) (by have:=S0.lt; have:=g.size; show w.heap.size<wx.heap.size; omega)).trans ((S0.ax.below' g).cell (i:=4) rfl)),((g1.cell (p:=⟨w.heap.size,5,none⟩) (by have:=S0.lt; have:=g.size; show w.heap.size<wx.heap.size; omega)).trans ((S0.ax.below' g).cell (i:=5) rfl)),((g1.cell (p:=⟨w.heap.size,6,none⟩) (by have:=S0.lt; have:=g.size; show w.heap.size<wx.heap.size; omega)).trans ((S0.ax.below' g).cell (i:=6) rfl))⟩ (by have:=S0.lt; have:=g.size; have:=g1.size; omega)))
 have HM:=hid (Z2p h.A S0.se.may d (dvTurn (dev h.A d.toNat) n at_ by_) hX);generalize chgA h.A d (dvTurn (dev h.A d.toNat) n at_ by_)=r at CA HM;have HP:=hid (And.intro S0 B0);rw[Qq];obtain⟨ra,hra⟩:∃ ra:Ha × An,(if r.2=0 then (⟨r.1,h.nx,h.rd⟩:Ha) else h,anE r.2)=ra:=⟨_,rfl⟩
 rw[hra];have HRA:=hid hra;clear hra;clear h1 h2 h3 H S0 B0;go_enter Tryz.func10,Tryz.ntmps10
 go_upto_region 1 with fail
 rw[<- hW'];clear hW';go_wp2_with fail
 go_region_with (first
  | (go_at_call 20; refine (CA.out _ (by go_grown)).mono ?_; rintro _ w3 ⟨⟨x,n1,e1,rfl,hX⟩,g3⟩; (have S3:=hid (HP.out.1.to (by first | exact g3 | exact undrew g3))); (have hX3:=hid hX); clear hX g3)
  | (go_at_call 16; refine (Ug p h _ _ _ r.2 r.1 _ S3.out.se (XX (w0:=W) (by have:=S3.out.pl; have:=HP.out.1.lt; omega) hX3.out HM.out)).mono ?_; rintro _ w4 ⟨rfl,s4,c4⟩; (have S4:=hid (S3.out.kept s4 c4)); (obtain⟨⟨y0,y1,y2,y3,y4⟩,_⟩:=ZJ S4.out.an (.int .i64 r.2) (.string ⟨#[]⟩) (.slice none 0 0) (.int .i64 0) (.slice none 0 0)); clear s4 c4; (have v0:=S4.out.an.cell (i:=0) rfl); (have f0:=S4.out.an.free 0); (have v1:=S4.out.an.cell (i:=1) rfl); (have f1:=S4.out.an.free 1); (have v2:=S4.out.an.cell (i:=2) rfl); (have f2:=S4.out.an.free 2); (have v3:=S4.out.an.cell (i:=3) rfl); (have f3:=S4.out.an.free 3); (have v4:=S4.out.an.cell (i:=4) rfl); (have f4:=S4.out.an.free 4)))
 all_goals go_wp2
 all_goals refine bodyPost_ret (v:=.agg #[.int .i64 r.2,.string ⟨#[]⟩,.slice none 0 0,.int .i64 0,.slice none 0 0]) (by simp[results,Tryz.results10,go_sem,y0,y1,y2,y3,y4]) rfl ?_
 all_goals rw[<- HRA.out]
 all_goals exact S4.out.out (nxE r.2) (nxE_ok _ _) (nxE_new _ _)
theorem do_get (F:List Fi) (s:ByteArray) (d n at_ by_:Int) (fa:Option Addr) (fn fc:Nat) (H:Se w p h):
  Calls Tryz.prog 10 #[.pointer (some ⟨p,0,none⟩),.agg #[.int .i64 2,.slice fa fn fc,.string s,.int .i64 d,.int .i64 n,.int .i64 at_,.int .i64 by_]] w (Wm w p (Z0p h s)):=by
 obtain⟨S0,B0⟩:=Xm ⟨⟨2,F,s,d,n,at_,by_⟩,⟨fa,fn,fc⟩⟩ H;obtain⟨W,hW⟩:∃ W,W=(w.alloc (.cells (axC ⟨⟨2,F,s,d,n,at_,by_⟩,⟨fa,fn,fc⟩⟩).toArray 46)).alloc (.cells zero5.toArray 34):=⟨_,rfl⟩;rw[<- hW] at S0 B0;have hW':W=(w.alloc (.cells #[.int .i64 2,.slice fa fn fc,.string s,.int .i64 d,.int .i64 n,.int .i64 at_,.int .i64 by_] 46)).alloc (.cells #[.int .i64 0,.string ⟨#[]⟩,.slice none 0 0,.int .i64 0,.slice none 0 0] 34):=hW;clear hW;obtain⟨b0,o0,cc,hd0,h1,h2,h3⟩:=S0.se.ex;have d0:=h1.cell (i:=0) rfl;have x0:=S0.ax.cell (i:=0) rfl;have x1:=S0.ax.cell (i:=2) rfl;have CA:=hid (fun wx (g:Below W.heap.size W wx)=>Z80 (some ⟨b0,o0,none⟩) 3 cc h.A s wx (.inr ⟨b0,o0,hd0,rfl,h2.below g⟩))
 unfold Z0p;generalize getA h.A s=r at CA;have HP:=hid (And.intro S0 B0);clear h1 h2 h3 H S0 B0;go_enter Tryz.func10,Tryz.ntmps10
 go_upto_region 1 with fail
 rw[<- hW'];clear hW';go_wp2_with fail
 go_cut [5,6] (fun s5 s6 wx=>s5=.string (str r.1)∧s6=.int .i64 r.2∧Below W.heap.size W wx)
 case first=>
  go_region_with (go_at_call 18; refine (CA.out _ (by go_grown)).mono ?_; rintro _ w3 ⟨rfl,g3⟩; (have G3:=hid (show Below W.heap.size W w3 by first | exact g3 | exact undrew g3)); clear g3)
  all_goals go_wp2_with fail
  all_goals go_meet
  all_goals exact⟨rfl,rfl,by first | exact G3.out | exact G3.out.drew⟩
 case rest=>
  obtain⟨rfl,rfl,g3⟩:=hcut;have S4:=hid (HP.out.1.to g3);clear g3 x0 x1 d0;obtain⟨⟨y0,y1,y2,y3,y4⟩,_⟩:=ZJ S4.out.an (.int .i64 r.2) (.string (str r.1)) (.slice none 0 0) (.int .i64 0) (.slice none 0 0);have v0:=S4.out.an.cell (i:=0) rfl;have f0:=S4.out.an.free 0;have v1:=S4.out.an.cell (i:=1) rfl;have f1:=S4.out.an.free 1;have v2:=S4.out.an.cell (i:=2) rfl;have f2:=S4.out.an.free 2;have v3:=S4.out.an.cell (i:=3) rfl;have f3:=S4.out.an.free 3;have v4:=S4.out.an.cell (i:=4) rfl;have f4:=S4.out.an.free 4;go_wp2
  refine bodyPost_ret (v:=.agg #[.int .i64 r.2,.string (str r.1),.slice none 0 0,.int .i64 0,.slice none 0 0]) (by simp[results,Tryz.results10,go_sem,y0,y1,y2,y3,y4]) rfl ?_
  exact S4.out.out ⟨⟨r.2,r.1,[],0,[]⟩,nilS,nilS⟩ ⟨Zd.nil,rfl,Nat.zero_le _,intsAt_none _ _⟩ ⟨newS_nil _ _,newS_nil _ _⟩
theorem Z8f (F:List Fi) (s:ByteArray) (d n at_ by_:Int) (fa:Option Addr) (fn fc:Nat) (H:Se w p h):
  Calls Tryz.prog 10 #[.pointer (some ⟨p,0,none⟩),.agg #[.int .i64 3,.slice fa fn fc,.string s,.int .i64 d,.int .i64 n,.int .i64 at_,.int .i64 by_]] w (Wm w p (Td h)):=by
 obtain⟨S0,B0⟩:=Xm ⟨⟨3,F,s,d,n,at_,by_⟩,⟨fa,fn,fc⟩⟩ H;obtain⟨W,hW⟩:∃ W,W=(w.alloc (.cells (axC ⟨⟨3,F,s,d,n,at_,by_⟩,⟨fa,fn,fc⟩⟩).toArray 46)).alloc (.cells zero5.toArray 34):=⟨_,rfl⟩;rw[<- hW] at S0 B0;have hW':W=(w.alloc (.cells #[.int .i64 3,.slice fa fn fc,.string s,.int .i64 d,.int .i64 n,.int .i64 at_,.int .i64 by_] 46)).alloc (.cells #[.int .i64 0,.string ⟨#[]⟩,.slice none 0 0,.int .i64 0,.slice none 0 0] 34):=hW;clear hW;obtain⟨b0,o0,cc,hd0,h1,h2,h3⟩:=S0.se.ex;have d0:=h1.cell (i:=0) rfl;have x0:=S0.ax.cell (i:=0) rfl;have CA:=hid (fun wx (g:Below W.heap.size W wx)=>Z4I (some ⟨b0,o0,none⟩) 3 cc h.A wx (.inr ⟨b0,o0,hd0,rfl,h2.below g⟩))
 unfold Td;generalize opn h.A=r at CA;have HP:=hid (And.intro S0 B0);clear h1 h2 h3 H S0 B0;go_enter Tryz.func10,Tryz.ntmps10
 go_upto_region 1 with fail
 rw[<- hW'];clear hW';go_wp2_with fail
 refine (CA.out _ (Below.refl _ _)).mono ?_
 rintro _ w3 ⟨x,n1,c1,rfl,hX,hN,g3⟩;have S4:=hid (HP.out.1.to g3);have X4:=hid (And.intro hX hN);clear g3 x0 d0 hX hN;obtain⟨⟨y0,y1,y2,y3,y4⟩,_⟩:=ZJ S4.out.an (.int .i64 r.2) (.string ⟨#[]⟩) (.slice x n1 c1) (.int .i64 0) (.slice none 0 0);have v0:=S4.out.an.cell (i:=0) rfl;have f0:=S4.out.an.free 0;have v1:=S4.out.an.cell (i:=1) rfl;have f1:=S4.out.an.free 1;have v2:=S4.out.an.cell (i:=2) rfl;have f2:=S4.out.an.free 2;have v3:=S4.out.an.cell (i:=3) rfl;have f3:=S4.out.an.free 3;have v4:=S4.out.an.cell (i:=4) rfl;have f4:=S4.out.an.free 4;go_wp2
 refine bodyPost_ret (v:=.agg #[.int .i64 r.2,.string ⟨#[]⟩,.slice x n1 c1,.int .i64 0,.slice none 0 0]) (by simp[results,Tryz.results10,go_sem,y0,y1,y2,y3,y4]) rfl ?_
 exact S4.out.out ⟨⟨r.2,[],namesE r.1.2,0,[]⟩,⟨x,n1,c1⟩,nilS⟩ ⟨X4.out.1.1,X4.out.1.2.1,X4.out.1.2.2,intsAt_none _ _⟩ ⟨X4.out.2.less HP.out.1.lt,newS_nil _ _⟩
theorem Z5j (F:List Fi) (s:ByteArray) (d n at_ by_:Int) (fa:Option Addr) (fn fc:Nat) (H:Se w p h):
  Calls Tryz.prog 10 #[.pointer (some ⟨p,0,none⟩),.agg #[.int .i64 8,.slice fa fn fc,.string s,.int .i64 d,.int .i64 n,.int .i64 at_,.int .i64 by_]] w (Wm w p (Wk h)):=by
 obtain⟨S0,B0⟩:=Xm ⟨⟨8,F,s,d,n,at_,by_⟩,⟨fa,fn,fc⟩⟩ H;obtain⟨W,hW⟩:∃ W,W=(w.alloc (.cells (axC ⟨⟨8,F,s,d,n,at_,by_⟩,⟨fa,fn,fc⟩⟩).toArray 46)).alloc (.cells zero5.toArray 34):=⟨_,rfl⟩;rw[<- hW] at S0 B0;have hW':W=(w.alloc (.cells #[.int .i64 8,.slice fa fn fc,.string s,.int .i64 d,.int .i64 n,.int .i64 at_,.int .i64 by_] 46)).alloc (.cells #[.int .i64 0,.string ⟨#[]⟩,.slice none 0 0,.int .i64 0,.slice none 0 0] 34):=hW;clear hW;obtain⟨b0,o0,cc,hd0,h1,h2,h3⟩:=S0.se.ex;have d0:=h1.cell (i:=0) rfl;have x0:=S0.ax.cell (i:=0) rfl;have CA:=hid (fun wx (g:Below W.heap.size W wx)=>Z3j (some ⟨b0,o0,none⟩) 3 cc h.A wx (.inr ⟨b0,o0,hd0,rfl,h2.below g⟩))
 unfold Wk;generalize arHealth h.A=r at CA;have HP:=hid (And.intro S0 B0);clear h1 h2 h3 H S0 B0;go_enter Tryz.func10,Tryz.ntmps10
 go_upto_region 1 with fail
 rw[<- hW'];clear hW';go_wp2_with fail
 refine (CA.out _ (Below.refl _ _)).mono ?_
 rintro _ w3 ⟨⟨x,n1,c1,rfl,hX,hN⟩,g3⟩;have S4:=hid (HP.out.1.to g3);have X4:=hid (And.intro hX hN);clear g3 x0 d0 hX hN;obtain⟨⟨y0,y1,y2,y3,y4⟩,_⟩:=ZJ S4.out.an (.int .i64 r.2.2) (.string ⟨#[]⟩) (.slice none 0 0) (.int .i64 r.1) (.slice x n1 c1);have v0:=S4.out.an.cell (i:=0) rfl;have f0:=S4.out.an.free 0;have v1:=S4.out.an.cell (i:=1) rfl;have f1:=S4.out.an.free 1;have v2:=S4.out.an.cell (i:=2) rfl;have f2:=S4.out.an.free 2;have v3:=S4.out.an.cell (i:=3) rfl;have f3:=S4.out.an.free 3;have v4:=S4.out.an.cell (i:=4) rfl;have f4:=S4.out.an.free 4;go_wp2
 refine bodyPost_ret (v:=.agg #[.int .i64 r.2.2,.string ⟨#[]⟩,.slice none 0 0,.int .i64 r.1,.slice x n1 c1]) (by simp[results,Tryz.results10,go_sem,y0,y1,y2,y3,y4]) rfl ?_
 exact S4.out.out ⟨⟨r.2.2,[],[],r.1,r.2.1⟩,nilS,⟨x,n1,c1⟩⟩ ⟨Zd.nil,rfl,Nat.zero_le _,X4.out.1⟩ ⟨newS_nil _ _,X4.out.2.less HP.out.1.lt⟩
theorem Z6U (F:List Fi) (s:ByteArray) (d n at_ by_:Int) (fa:Option Addr) (fn fc:Nat) (H:Se w p h):
  Calls Tryz.prog 10 #[.pointer (some ⟨p,0,none⟩),.agg #[.int .i64 7,.slice fa fn fc,.string s,.int .i64 d,.int .i64 n,.int .i64 at_,.int .i64 by_]] w (Wm w p (actScrub h n)):=by
 obtain⟨S0,B0⟩:=Xm ⟨⟨7,F,s,d,n,at_,by_⟩,⟨fa,fn,fc⟩⟩ H;obtain⟨W,hW⟩:∃ W,W=(w.alloc (.cells (axC ⟨⟨7,F,s,d,n,at_,by_⟩,⟨fa,fn,fc⟩⟩).toArray 46)).alloc (.cells zero5.toArray 34):=⟨_,rfl⟩;rw[<- hW] at S0 B0;have hW':W=(w.alloc (.cells #[.int .i64 7,.slice fa fn fc,.string s,.int .i64 d,.int .i64 n,.int .i64 at_,.int .i64 by_] 46)).alloc (.cells #[.int .i64 0,.string ⟨#[]⟩,.slice none 0 0,.int .i64 0,.slice none 0 0] 34):=hW;clear hW;obtain⟨b0,o0,cc,hd0,h1,h2,h3⟩:=S0.se.ex;have d0:=h1.cell (i:=0) rfl;have x0:=S0.ax.cell (i:=0) rfl;have x1:=S0.ax.cell (i:=4) rfl;have CA:=hid (fun wx (g:Below W.heap.size W wx)=>Z2R p h n wx (S0.se.below g))
 generalize actScrub h n=r at CA;have HP:=hid (And.intro S0 B0);clear h1 h2 h3 H S0 B0;go_enter Tryz.func10,Tryz.ntmps10
 go_upto_region 1 with fail
 rw[<- hW'];clear hW';go_wp2_with fail
 refine (CA.out _ (Below.refl _ _)).mono ?_
 rintro _ w3 ⟨q,rfl,hq,hO,hN,hS,hC⟩;have S4:=hid (HP.out.1.kept hS hC);have X4:=hid (And.intro hq (And.intro hO hN));clear hq hO hN hS hC x0 x1 d0;obtain⟨⟨y0,y1,y2,y3,y4⟩,_⟩:=ZJ S4.out.an (.int .i64 q.r.code) (.string (str q.r.data)) (.slice q.f.a q.f.n q.f.c) (.int .i64 q.r.count) (.slice q.g.a q.g.n q.g.c);have v0:=S4.out.an.cell (i:=0) rfl;have f0:=S4.out.an.free 0;have v1:=S4.out.an.cell (i:=1) rfl;have f1:=S4.out.an.free 1;have v2:=S4.out.an.cell (i:=2) rfl;have f2:=S4.out.an.free 2;have v3:=S4.out.an.cell (i:=3) rfl;have f3:=S4.out.an.free 3;have v4:=S4.out.an.cell (i:=4) rfl;have f4:=S4.out.an.free 4;unfold nxA;go_wp2
 refine bodyPost_ret (v:=.agg #[.int .i64 q.r.code,.string (str q.r.data),.slice q.f.a q.f.n q.f.c,.int .i64 q.r.count,.slice q.g.a q.g.n q.g.c]) (by simp[results,Tryz.results10,go_sem,y0,y1,y2,y3,y4]) rfl ?_
 have:=S4.out.out q X4.out.2.1 ⟨X4.out.2.2.1.less HP.out.1.lt,X4.out.2.2.2.less HP.out.1.lt⟩
 have hr:(r.1,q.r)=r:=by rw[X4.out.1]
 rw[hr] at this;exact this
theorem Z8d (k:Int) (F:List Fi) (s:ByteArray) (d n at_ by_:Int) (fa:Option Addr) (fn fc:Nat) (H:Se w p h) (hk:k≠1∧k≠2∧k≠3∧k≠4∧k≠5∧k≠6∧k≠7∧k≠8):
  Calls Tryz.prog 10 #[.pointer (some ⟨p,0,none⟩),.agg #[.int .i64 k,.slice fa fn fc,.string s,.int .i64 d,.int .i64 n,.int .i64 at_,.int .i64 by_]] w (Wm w p (h,anE 3)):=by
 obtain⟨S0,B0⟩:=Xm ⟨⟨k,F,s,d,n,at_,by_⟩,⟨fa,fn,fc⟩⟩ H;obtain⟨W,hW⟩:∃ W,W=(w.alloc (.cells (axC ⟨⟨k,F,s,d,n,at_,by_⟩,⟨fa,fn,fc⟩⟩).toArray 46)).alloc (.cells zero5.toArray 34):=⟨_,rfl⟩;rw[<- hW] at S0 B0;have hW':W=(w.alloc (.cells #[.int .i64 k,.slice fa fn fc,.string s,.int .i64 d,.int .i64 n,.int .i64 at_,.int .i64 by_] 46)).alloc (.cells #[.int .i64 0,.string ⟨#[]⟩,.slice none 0 0,.int .i64 0,.slice none 0 0] 34):=hW;clear hW;obtain⟨b0,o0,cc,hd0,h1,h2,h3⟩:=S0.se.ex;have d0:=h1.cell (i:=0) rfl;have x0:=S0.ax.cell (i:=0) rfl;obtain⟨k1,k2,k3,k4,k5,k6,k7,k8⟩:=hk;have e1:(k==1)=false:=beq_eq_false_iff_ne.2 k1;have e2:(k==2)=false:=beq_eq_false_iff_ne.2 k2;have e3:(k==3)=false:=beq_eq_false_iff_ne.2 k3;have e4:(k==4)=false:=beq_eq_false_iff_ne.2 k4;have e5:(k==5)=false:=beq_eq_false_iff_ne.2 k5;have e6:(k==6)=false:=beq_eq_false_iff_ne.2 k6;have e7:(k==7)=false:=beq_eq_false_iff_ne.2 k7;have e8:(k==8)=false:=beq_eq_false_iff_ne.2 k8;have S4:=hid S0;clear h1 h2 h3 H S0 B0 d0 k1 k2 k3 k4 k5 k6 k7 k8;go_enter Tryz.func10,Tryz.ntmps10
 go_upto_region 1 with fail
 rw[<- hW'];clear hW';obtain⟨⟨y0,y1,y2,y3,y4⟩,_⟩:=ZJ S4.out.an (.int .i64 3) (.string ⟨#[]⟩) (.slice none 0 0) (.int .i64 0) (.slice none 0 0);have v0:=S4.out.an.cell (i:=0) rfl;have f0:=S4.out.an.free 0;have v1:=S4.out.an.cell (i:=1) rfl;have f1:=S4.out.an.free 1;have v2:=S4.out.an.cell (i:=2) rfl;have f2:=S4.out.an.free 2;have v3:=S4.out.an.cell (i:=3) rfl;have f3:=S4.out.an.free 3;have v4:=S4.out.an.cell (i:=4) rfl;have f4:=S4.out.an.free 4;go_wp2
 refine bodyPost_ret (v:=.agg #[.int .i64 3,.string ⟨#[]⟩,.slice none 0 0,.int .i64 0,.slice none 0 0]) (by simp[results,Tryz.results10,go_sem,y0,y1,y2,y3,y4]) rfl ?_
 exact S4.out.out (nxE 3) (nxE_ok _ _) (nxE_new _ _)
end
theorem do_any (p:Nat) (h:Ha) (w:World) (q:Ax) (H:Se w p h) (hq:AxOk w q):
  Calls Tryz.prog 10 #[.pointer (some ⟨p,0,none⟩),axA q] w (Wm w p (actS h q.x)):=by
 obtain⟨⟨k,F,s,d,n,at_,by_⟩,⟨fa,fn,fc⟩⟩:=q;unfold actS axA;dsimp only
 by_cases e1:k=1
 ·subst e1; rw[if_pos rfl]; exact do_add p h w F s d n at_ by_ fa fn fc H hq.1
 rw[if_neg e1]
 by_cases e2:k=2
 ·subst e2; rw[if_pos rfl]; exact do_get p h w F s d n at_ by_ fa fn fc H
 rw[if_neg e2]
 by_cases e3:k=3
 ·subst e3; rw[if_pos rfl]; exact Z8f p h w F s d n at_ by_ fa fn fc H
 rw[if_neg e3]
 by_cases e4:k=4
 ·subst e4; rw[if_pos (.inl rfl)]; exact Z8e p h w F s d n at_ by_ fa fn fc H
 by_cases e5:k=5
 ·subst e5; rw[if_pos (.inr rfl)]; exact Z8c p h w F s d n at_ by_ fa fn fc H
 rw[if_neg (by rintro (e | e); exact e4 e; exact e5 e)]
 by_cases e6:k=6
 ·subst e6; rw[if_pos rfl]; exact do_new p h w F s d n at_ by_ fa fn fc H
 rw[if_neg e6]
 by_cases e7:k=7
 ·subst e7; rw[if_pos rfl]; exact Z6U p h w F s d n at_ by_ fa fn fc H
 rw[if_neg e7]
 by_cases e8:k=8
 ·subst e8; rw[if_pos rfl]; exact Z5j p h w F s d n at_ by_ fa fn fc H
 rw[if_neg e8];exact Z8d p h w k F s d n at_ by_ fa fn fc H ⟨e1,e2,e3,e4,e5,e6,e7,e8⟩
end Go.Proofs.YtdnacpbgodooaaaGreatDoor
namespace Go.Proofs.YtdnacpbgodooaaaGreatDoor
open Go.RowKit Go.Lib
def Z0s (w:World) (r:List An × Ar × Int) (e:Ending) (w':World):Prop:=
 ∃ a n c x m d L,e=.returned (.tuple #[.slice a n c,.agg #[.slice x m d],.int .i64 r.2.2])∧(ans L=r.1∧AnsI w' w.heap.size (.slice a n c) L)∧Z5 w' x m r.2.1∧Below w.heap.size w w'
theorem Wr {w w':World} {x:Int} (g:Below w.heap.size w w'):Z0s w ([],[],x) (.returned (.tuple #[.slice none 0 0,.agg #[.slice none 0 0],.int .i64 x])) w':=
 ⟨none,0,0,none,0,0,[],rfl,⟨rfl,ansI_nil _ _⟩,.inl ⟨rfl,rfl⟩,g⟩
theorem Z0s.drew {w w':World} {r:List An × Ar × Int} {e:Ending} (h:Z0s w r e w'):Z0s w r e w'.drew:=by
 obtain⟨a,n,c,x,m,d,L,h1,⟨h2,h4⟩,h5,h6⟩:=h;exact⟨a,n,c,x,m,d,L,h1,⟨h2,h4.below (Below.refl _ _).drew⟩,h5.below (Below.refl _ _).drew,h6.drew⟩
theorem AnsI.less {w:World} {base b2:Nat} {v:Value} {L:List Nx} (h:AnsI w base v L) (hb:b2<=base):AnsI w b2 v L:=by
 refine⟨⟨h.own.1,?_⟩,h.spare,fun q hq=>⟨(h.ok q hq).1,(h.ok q hq).2.1,(h.ok q hq).2.2.less hb⟩⟩
 rcases h.own.2 with e | ⟨g,cap,cur,e,hbg,r⟩
 ·exact .inl e
 ·exact .inr ⟨g,cap,cur,e,Nat.le_trans hb hbg,r⟩
theorem Z0j (n:Int) (h:(arNew n).2=0):Z2 (arNew n).1=true:=by
 unfold arNew at h
 split at h
 ·rename_i hn
  obtain⟨N,rfl⟩:∃ N:Nat,n=N:=⟨n.toNat,by omega⟩
  rw[Z1U N (by omega) (by omega) (by omega)]
  exact YJ (Ts N (by omega) (by omega) (by omega))
 ·cases h
structure RunT (t:TypeId) (w:World) (p:Nat) (M:List Ac) (h0 h:Ha) (k:Nat) (v:Value) (W:World):Prop where
 ex:∃ L,AnsI W (p+1) v L∧ans L=(runS h0 (M.take k)).2
 eq:h=(runS h0 (M.take k)).1
 se:SeT t W p h
 rb:Own W w.heap.size 26 [.slice none 0 0]
 pl:w.heap.size<p∧p<W.heap.size
 below:Below w.heap.size w W
abbrev RunI:=RunT 43
theorem run_next (h0:Ha) (M:List Ac) (k:Nat) (x:Ac) (hx:M[k]?=some x):runS h0 (M.take (k+1))=((actS (runS h0 (M.take k)).1 x).1,(runS h0 (M.take k)).2++[(actS (runS h0 (M.take k)).1 x).2]):=by
 have hk:k<M.length:=by
  rcases Nat.lt_or_ge k M.length with h | h
  ·exact h
  ·rw[List.getElem?_eq_none h] at hx; cases hx
 have e:M[k]=x:=by rw[List.getElem?_eq_getElem hk] at hx; exact Option.some.inj hx
 rw[List.take_succ_eq_append_getElem hk,run_snoc,e]
section
variable {t:TypeId} {w W W':World} {p k:Nat} {M:List Ac} {h0 h:Ha} {v:Value}
theorem RunT.to (H:RunT t w p M h0 h k v W) (g:Below W.heap.size W W'):RunT t w p M h0 h k v W':=by
 obtain⟨L,h1,h2⟩:=H.ex;exact⟨⟨L,h1.below g,h2⟩,H.eq,H.se.below g,H.rb.below' g,⟨H.pl.1,Nat.lt_of_lt_of_le H.pl.2 g.size⟩,bel3 H.below g⟩
theorem RunT.next (H:RunT t w p M h0 h k v W) {x:Ac} (hx:M[k]?=some x) {W1 W2:World} {q:Nx} (g0:Below W.heap.size W W1) (hr:q.r=(actS h x).2) (hq:NxOk W2 q) (hn:YO W1.heap.size q) (hs:SeT t W2 p (actS h x).1) (hc:Chg (fun j=>j=p) W1 W2):
  (∃ L,AnsI (W2.alloc (.cells (nxC q).toArray 34)) (p+1) v L∧L.length=k∧(NxOk (W2.alloc (.cells (nxC q).toArray 34)) q∧VP v.ownBlock q∧YO (p+1) q) ∧
   ∀ v' W3,AnsI W3 (p+1) v' (L++[q])->(W2.alloc (.cells (nxC q).toArray 34)).grownBy W3 v.ownBlock->WC (W2.alloc (.cells (nxC q).toArray 34)) W3->RunT t w p M h0 (actS h x).1 (k+1) v' W3) ∧
  (∀ j u,(nxC q)[j]?=some u->(W2.alloc (.cells (nxC q).toArray 34)).cell? ((⟨W2.heap.size,0,none⟩:Addr).add j)=some u)∧p+1<=(W2.alloc (.cells (nxC q).toArray 34)).heap.size:=by
 obtain⟨L,h1,h2⟩:=H.ex;have pl:=H.pl;have z0:=g0.size;have z1:=hc.size;have b2:Below W2.heap.size W2 (W2.alloc (.cells (nxC q).toArray 34)):=(Below.refl _ W2).alloc (Nat.le_refl _) _;have hL:L.length=k:=by
  have hk:k<M.length:=by
   rcases Nat.lt_or_ge k M.length with h | h
   ·exact h
   ·rw[List.getElem?_eq_none h] at hx; cases hx
  have:=congrArg List.length h2
  rw[Z4b,List.length_take] at this;rw[ans,List.length_map] at this;omega
 have A2:=((h1.below g0).chg hc (by omega)).below b2
 have hown:∀ g,v.ownBlock=some g->g<W1.heap.size:=fun g e=>Nat.lt_of_lt_of_le (World.ownsRow.lt h1.own g e).2 z0
 refine⟨⟨L,A2,hL,⟨hq.below b2,hn.off hown,⟨hn.1.less (by omega),hn.2.less (by omega)⟩⟩,fun v' W3 a3 g3 k3=>?_⟩,fun j u hj=>?_,?_⟩
 ·have hp:(W2.alloc (.cells (nxC q).toArray 34)).heap[p]?=W2.heap[p]?:=b2.block p (by omega)
  have np:v.ownBlock≠some p:=fun e=>by have:=(World.ownsRow.lt h1.own p e).1; omega
  have nr:v.ownBlock≠some w.heap.size:=fun e=>by have:=(World.ownsRow.lt h1.own _ e).1; omega
  have zz:=b2.size;have z3:=g3.size;have hh:=H.eq;refine⟨⟨L++[q],a3,?_⟩,?_,(hs.below b2).keepz k3 (g3.block p (by omega) (fun e=>np e.symm)),?_,⟨pl.1,by omega⟩,?_⟩
  ·rw[Z7a,h2,run_next h0 M k x hx,hr,hh]
  ·rw[run_next h0 M k x hx,hh]
  ·refine ((((H.rb.below' g0).of_block (hc.block _ (by omega) (by omega))).below' b2)).of_block (g3.block _ (by omega) (fun e=>nr e.symm))
  ·have hB:Below w.heap.size w W2:=⟨hc.os.trans (bel3 H.below g0).os,hc.tape.trans (bel3 H.below g0).tape,hc.output.trans (bel3 H.below g0).output,Nat.le_trans (bel3 H.below g0).size z1,fun j hj=>(hc.block j (by have:=H.below.size; omega) (by omega)).trans ((bel3 H.below g0).block j hj)⟩
   exact (hB.trans (b2.mono hB.size)).grown g3 (by have:=hB.size; omega) (fun g e=>by have:=(World.ownsRow.lt h1.own g e).1; omega)
 ·rw[Addr.add_lit,Nat.zero_add]
  exact (Own.made W2 34 (nxC q)).cell hj
 ·have:=b2.size
  omega
theorem RunT.out (H:RunT t w p M h0 h k v W) (hk:k=M.length) (_hM:M.length<=200) (b o c:Nat) (hd:Nat->Hd) (hA:Arr W b o 3 hd h.A):
  Z0s w ((runS h0 M).2,(runS h0 M).1.A,0) (.returned (.tuple #[v,.agg #[.slice (some ⟨b,o,none⟩) 3 c],.int .i64 0])) (W.setCell ⟨w.heap.size,0,none⟩ (.slice (some ⟨b,o,none⟩) 3 c)):=by
 obtain⟨L,h1,h2⟩:=H.ex;have hh:=H.eq;have pl:=H.pl;subst hk;rw[List.take_length] at h2 hh;have c1:=(Chg.refl (fun j=>j=w.heap.size) W).set (p:=w.heap.size) rfl 0 (.slice (some ⟨b,o,none⟩) 3 c)
 have hv:∃ a n d,v=.slice a n d:=by
  rcases h1.own.2 with ⟨e,_⟩ | ⟨g,cap,cur,e,_⟩
  ·exact⟨none,0,0,e⟩
  ·exact⟨_,_,_,e⟩
 obtain⟨a,n,d,rfl⟩:=hv;refine⟨a,n,d,some ⟨b,o,none⟩,3,c,L,rfl,⟨h2,(h1.chg c1 (by omega)).less (by omega)⟩,.inr ⟨b,o,hd,rfl,?_⟩,H.below.setCell (Nat.le_refl _) _⟩
 rw[<- hh];exact hA.keepz H.se.may (Zv (H.rb.cell (i:=0) rfl) (.inr (.inr rfl)) _)
end
theorem Z65 (n:Int) (x:Option Addr) (m c:Nat) (L:List Ax) (w:World) (H:WD w x m L):
  Calls Tryz.prog 4 #[.int .i64 n,.slice x m c] w (Z0s w (scrS n (acs L))):=by
 obtain⟨W,hW⟩:∃ W,W=w.alloc (.cells #[.slice none 0 0] 26):=⟨_,rfl⟩;have hB:Below w.heap.size w W:=by rw[hW]; go_grown
 have rb:Own W w.heap.size 26 [.slice none 0 0]:=by rw[hW]; exact Own.made w 26 [.slice none 0 0]
 have CN:=hid (Z1z n W);have HM:=hid (Z0j n);have hm:=H.sn;unfold scrS;rw[VO,<- hm];have HH:=hid (And.intro H (And.intro hB (And.intro rb hm)));generalize arNew n=R at CN HM;clear H hB hm;have r0:=rb.cell (i:=0) rfl;have rf:=rb.free 0;clear rb
 by_cases e0:R.2=0
 ·rw[if_pos e0]
  have e1:(R.2 != 0)=false:=bne_eq_false_iff_eq.2 e0;have HE:=hid e0;clear e0
  by_cases hl:200<m
  ·rw[if_pos hl]
   have hl':(200:Int)<m:=by omega
   go_enter Tryz.func4,Tryz.ntmps4
   go_upto_region 1 with fail
   rw[<- hW];clear hW;go_wp2_with fail
   refine CN.out.mono ?_
   rintro _ v1 ⟨⟨a,n1,c1,rfl,_⟩,g1⟩;have G1:=hid (bel3 HH.out.2.1 (bel3 g1 ((Below.refl _ v1).alloc (Nat.le_refl _) (.cells #[.slice a n1 c1] 26))));have q0:=(HH.out.2.2.1.below' (bel3 g1 ((Below.refl _ v1).alloc (Nat.le_refl _) (.cells #[.slice a n1 c1] 26)))).cell (i:=0) rfl;have qf:=(HH.out.2.2.1.below' (bel3 g1 ((Below.refl _ v1).alloc (Nat.le_refl _) (.cells #[.slice a n1 c1] 26)))).free 0;clear g1 r0 rf CN;go_upto_region 2 with fail
   generalize v1.alloc (.cells #[.slice a n1 c1] 26)=V at G1 q0 qf ⊢;have y0:=World.cell?_setCell_same V ⟨w.heap.size,0,none⟩ (.slice none 0 0) q0
   have K:=hid (Wr (x:=1) (G1.out.setCell (p:=⟨w.heap.size,0,none⟩) (Nat.le_refl _) (.slice none 0 0)));go_wp2
   refine bodyPost_ret (v:=.tuple #[.slice none 0 0,.agg #[.slice none 0 0],.int .i64 1]) (by simp[results,Tryz.results4,go_sem,y0]) rfl ?_
   exact K.out
  ·rw[if_neg hl]
   have hl':¬ (200:Int)<m:=by omega
   obtain⟨ra,hra⟩:∃ ra:List An × Ar × Int,((runS ⟨R.1,0,0⟩ (acs L)).2,(runS ⟨R.1,0,0⟩ (acs L)).1.A,(0:Int))=ra:=⟨_,rfl⟩;rw[hra];have HRA:=hid hra;clear hra;go_enter Tryz.func4,Tryz.ntmps4
   go_upto_region 1 with fail
   rw[<- hW];clear hW;go_wp2_with fail
   refine CN.out.mono ?_
   rintro _ v1 ⟨⟨a,n1,c1,rfl,hX⟩,g1⟩;have ha:=XX (p:=w.heap.size) HH.out.2.2.1.lt hX HM.out HE.out;obtain⟨b,o,hd,rfl,rfl,hA,_,hm⟩:=ha;have hbW:W.heap.size<=b:=by
    rcases hX with ⟨h,_⟩ | ⟨b',hd',e,h,_⟩
    ·omega
    ·cases e; exact h
   clear hX r0 rf CN;go_upto_region 2 with fail
   obtain⟨V,hV⟩:∃ V,V=v1.alloc (.cells #[.slice (some ⟨b,o,none⟩) 3 c1] 26):=⟨_,rfl⟩;have bV:Below v1.heap.size v1 V:=by rw[hV]; exact (Below.refl _ v1).alloc (Nat.le_refl _) _
   have d0:V.cell? ⟨v1.heap.size,0,none⟩=some (.slice (some ⟨b,o,none⟩) 3 c1):=by rw[hV]; simp[go_sem]
   rw[<- hV];clear hV;go_upto_region 7 with fail
   obtain⟨X,hX⟩:∃ X,X=V.alloc (.cells #[.slice (some ⟨b,o,none⟩) 3 c1,.int .i64 0,.int .i64 0] 43):=⟨_,rfl⟩;have bX:Below V.heap.size V X:=by rw[hX]; exact (Below.refl _ V).alloc (Nat.le_refl _) _
   have oX:Own X V.heap.size 43 [.slice (some ⟨b,o,none⟩) 3 c1,.int .i64 0,.int .i64 0]:=by rw[hX]; exact Own.made V 43 [.slice (some ⟨b,o,none⟩) 3 c1,.int .i64 0,.int .i64 0]
   rw[<- hX];clear hX;have GX:=bel3 g1 (bel3 bV bX);have J0:RunI w V.heap.size (acs L) ⟨R.1,0,0⟩ ⟨R.1,0,0⟩ 0 (.slice none 0 0) X:=by
    refine⟨⟨[],ansI_nil _ _,rfl⟩,rfl,⟨⟨b,o,c1,hd,oX,(hA.below bV).below bX,?_⟩,hm⟩,HH.out.2.2.1.below' GX,⟨?_,oX.lt⟩,bel3 HH.out.2.1 GX⟩
    ·have:=hA.lt
     have:=bV.size
     omega
    ·have:=HH.out.2.2.1.lt
     have:=g1.size
     have:=bV.size
     omega
   have S0:=hid J0;clear J0 GX bX bV oX g1 hA d0 hbW hm;generalize V.heap.size=p at S0 ⊢;go_wp2_with fail
   go_loopw [10,30] (fun v i wr=>∃ (k:Nat) (h:Ha),k<=m∧i=.int .i64 k∧Hid (RunI w p (acs L) ⟨R.1,0,0⟩ h k v wr)) (fun _ i _=>m-(intOf i).toNat)
   case atStart=>exact⟨0,_,Nat.zero_le _,rfl,S0.out⟩
   case round=>
    obtain⟨k,h,hk,rfl,HI⟩:=hrel;clear S0
    by_cases hlt:k<m
    ·have hlt':(k:Int)<m:=by omega
     obtain⟨q,b1,o1,hq,rfl,hb1,hok,x0,x1,x2,x3,x4,x5,x6⟩:=(HH.out.1.below HI.out.below).one k hlt;have hx:(acs L)[k]?=some q.x:=by rw[acs,List.getElem?_map,hq]; rfl
     obtain⟨⟨qk,qF,qs,qd,qn,qa,qb⟩,⟨fa,fn,fc⟩⟩:=q;dsimp only at x0 x1 x2 x3 x4 x5 x6 hx;obtain⟨V2,hV2⟩:∃ V2,V2=wr.alloc (.cells #[.int .i64 qk,.slice fa fn fc,.string qs,.int .i64 qd,.int .i64 qn,.int .i64 qa,.int .i64 qb] 46):=⟨_,rfl⟩;have g2:Below wr.heap.size wr V2:=by rw[hV2]; exact (Below.refl _ wr).alloc (Nat.le_refl _) _
     have o2:Own V2 wr.heap.size 46 [.int .i64 qk,.slice fa fn fc,.string qs,.int .i64 qd,.int .i64 qn,.int .i64 qa,.int .i64 qb]:=by rw[hV2]; exact Own.made wr 46 _
     have CD:=hid (do_any p h V2 ⟨⟨qk,qF,qs,qd,qn,qa,qb⟩,⟨fa,fn,fc⟩⟩ (HI.out.se.below g2) (hok.below g2));have HN:=hid (And.intro hx g2);clear hq hb1 hok hx g2;go_upto_region 11 with fail
     rw[<- hV2];clear hV2 x0 x1 x2 x3 x4 x5 x6;have z0:=o2.cell (i:=0) rfl;have z1:=o2.cell (i:=1) rfl;have z2:=o2.cell (i:=2) rfl;have z3:=o2.cell (i:=3) rfl;have z4:=o2.cell (i:=4) rfl;have z5:=o2.cell (i:=5) rfl;have z6:=o2.cell (i:=6) rfl;clear o2;go_wp2_with fail
     refine CD.out.mono ?_
     rintro _ V3 ⟨y,rfl,hr,hy,hyn,hs,hc⟩;clear z0 z1 z2 z3 z4 z5 z6 CD;obtain⟨⟨LL,A3,hLL,hq3,fin⟩,hcells,hps⟩:=HI.out.next HN.out.1 HN.out.2 hr hy hyn hs hc;have A3:=hid A3;have HQ:=hid (And.intro hq3 (And.intro fin (And.intro hcells (And.intro hps hLL))));obtain⟨⟨yc,yd,yn,yt,yg⟩,⟨na,nn,nc⟩,⟨ga,gn,gc⟩⟩:=y;clear hr hy hyn hs hc hq3 fin hcells hps hLL HI HN;dsimp only[nxC] at A3 HQ;unfold nxA;dsimp only;go_wp2_with (at_builtin; (refine WE _ rfl (.tmp 34) (.tmp 37) rfl (p+1) u10 LL ⟨⟨yc,yd,yn,yt,yg⟩,⟨na,nn,nc⟩,⟨ga,gn,gc⟩⟩ rfl A3.out HQ.out.1 ⟨V3.heap.size,0,none⟩ rfl HQ.out.2.2.1 (by have:=HQ.out.2.2.2.2; omega) HQ.out.2.2.2.1 ?_; intro g5 m5 cap5 w5 hm5 hown5 hgrow5 hkz5; (have J5:=hid (HQ.out.2.1 _ _ hown5 hgrow5 hkz5)); clear hown5 hgrow5 hkz5 hm5))
     go_roundw
     case rel=>exact⟨k+1,_,by omega,by go_num,J5.out⟩
     case measure=>simp[intOf]; omega
    ·have hlt':¬ (k:Int)<m:=by omega
     obtain rfl:k=m:=by omega
     obtain⟨b2,o2,c2,hd2,p1,p2,p3⟩:=HI.out.se.ex;have d0:=p1.cell (i:=0) rfl;have r0:=HI.out.rb.cell (i:=0) rfl;have rf:=HI.out.rb.free 0;have K:=hid (HI.out.out (by rw[VO]; exact HH.out.2.2.2) (by rw[VO,<- HH.out.2.2.2]; omega) b2 o2 c2 hd2 p2)
     have y0:=World.cell?_setCell_same _ ⟨w.heap.size,0,none⟩ (.slice (some ⟨b2,o2,none⟩) 3 c2) r0
     clear p1 p2 p3 HI;go_wp2_with fail
     go_region
     all_goals go_wp2
     all_goals refine bodyPost_ret (v:=.tuple #[u10,.agg #[.slice (some ⟨b2,o2,none⟩) 3 c2],.int .i64 0]) (by simp[results,Tryz.results4,go_sem,y0]) rfl ?_
     all_goals rw[<- HRA.out]
     all_goals exact Z0s.drew K.out
 ·rw[if_neg e0]
  have e1:(R.2 != 0)=true:=bne_iff_ne.2 e0;clear e0;go_enter Tryz.func4,Tryz.ntmps4
  go_upto_region 1 with fail
  rw[<- hW];clear hW;go_wp2_with fail
  refine CN.out.mono ?_
  rintro _ v1 ⟨⟨a,n1,c1,rfl,_⟩,g1⟩;have G1:=hid (bel3 HH.out.2.1 (bel3 g1 ((Below.refl _ v1).alloc (Nat.le_refl _) (.cells #[.slice a n1 c1] 26))));have q0:=(HH.out.2.2.1.below' (bel3 g1 ((Below.refl _ v1).alloc (Nat.le_refl _) (.cells #[.slice a n1 c1] 26)))).cell (i:=0) rfl;have qf:=(HH.out.2.2.1.below' (bel3 g1 ((Below.refl _ v1).alloc (Nat.le_refl _) (.cells #[.slice a n1 c1] 26)))).free 0;clear g1 r0 rf CN;go_upto_region 2 with fail
  generalize v1.alloc (.cells #[.slice a n1 c1] 26)=V at G1 q0 qf ⊢;have y0:=World.cell?_setCell_same V ⟨w.heap.size,0,none⟩ (.slice none 0 0) q0
  have K:=hid (Wr (x:=R.2) (G1.out.setCell (p:=⟨w.heap.size,0,none⟩) (Nat.le_refl _) (.slice none 0 0)));go_wp2
  refine bodyPost_ret (v:=.tuple #[.slice none 0 0,.agg #[.slice none 0 0],.int .i64 R.2]) (by simp[results,Tryz.results4,go_sem,y0]) rfl ?_
  exact K.out
end Go.Proofs.YtdnacpbgodooaaaGreatDoor
