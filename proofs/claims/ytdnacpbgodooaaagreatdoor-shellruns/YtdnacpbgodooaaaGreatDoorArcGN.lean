import Derived.Test.YtdnacpbgodooaaaGreatDoorCatRA
import Derived.Test.YtdnacpbgodooaaaGreatDoorPressP
set_option maxHeartbeats 1600000
set_option maxRecDepth 4000
namespace Go.Proofs.YtdnacpbgodooaaaGreatDoor
open Go.RowKit Go.Lib
theorem Ux (A:Ar) (x n:Int):(Zn A x n).1.length<=1536:=by
 unfold Zn
 split
 ·rename_i h
  have:=(Xa A x n h).2.1
  simp; omega
 ·simp
theorem T3 {w w':World} {p:Addr} {v:Value} (g:Below w.heap.size w w') (h:w.cell? p=some v):w'.cell? p=some v:=(g.cell (YL h)).trans h
theorem Z56 (C:Ct) (s:ByteArray) (h:(ZD C s).2=0):catChk C=0∧∃ i,i<C.2.length∧(ZD C s).1=en C.2 i∧enOk (en C.2 i) C.1.length=true∧XC C.2 s C.2.length=some i:=by
 unfold ZD at h ⊢
 by_cases hc:catChk C=0
 ·rw[if_pos hc] at h ⊢
  refine⟨hc,?_⟩
  cases hf:XC C.2 s C.2.length with
  | none=>rw[hf] at h; cases h
  | some i=>
   have hi:=findN_some _ _ _ _ hf;obtain⟨_,_,_,h4⟩:=Xg C hc;exact⟨i,hi,rfl,WJ C.2 _ _ h4 i hi,rfl⟩
 ·rw[if_neg hc] at h
  exact absurd h hc
theorem Jb (a:Option Addr) (n c:Nat) (A:Ar) (b:Bk) (w:World) (H:Z5 w a n A):
  Calls Tryz.prog 50 #[.agg #[.slice a n c],.agg #[.int .i64 b.f,.int .i64 b.n]] w fun e w'=>e=.returned (.tuple #[.string (str (getU A b).1),.int .i64 (getU A b).2])∧Below w.heap.size w w':=by
 obtain⟨W,hW⟩:∃ W,W=(w.alloc (.cells #[.slice a n c] 26)).alloc (.cells #[.int .i64 b.f,.int .i64 b.n] 100):=⟨_,rfl⟩;have hB:Below w.heap.size w W:=by rw[hW]; go_grown
 have CR:=Tw a n c b.f b.n A W (H.below hB);rw[hW] at CR;have hl:=Ux A b.f b.n;unfold getU;obtain⟨R,hR⟩:∃ R,Zn A b.f b.n=R:=⟨_,rfl⟩;rw[hR] at CR hl ⊢;obtain⟨S,E⟩:=R;dsimp only at CR hl ⊢;have H1:=hid CR;have HP:=hid (And.intro hB hW);clear CR hR hB hW H
 by_cases e:E=0
 ·rw[if_pos e]
  subst e;have e0:((0:Int) != 0)=false:=rfl;have CU:=hid (fun wx=>Z2H (str S) wx (by rw[str_size]; unfold maxLen; omega))
  rw[str_list] at CU;generalize unp [] S=r at CU;generalize str S=Z at H1 CU;clear hl;go_enter Tryz.func50,Tryz.ntmps50
  go_wp2_with fail
  refine H1.out.mono ?_
  rintro _ w1 ⟨rfl,g1⟩;rw[<- HP.out.2] at g1;go_wp2_with fail
  refine (CU.out _).mono ?_
  rintro _ w2 ⟨rfl,g2⟩;go_wp2
  go_ret2
  exact⟨rfl,bel3 (bel3 HP.out.1 g1) g2⟩
 ·rw[if_neg e]
  have e0:(E != 0)=true:=by rw[bne_iff_ne]; exact e
  generalize str S=Z at H1;go_enter Tryz.func50,Tryz.ntmps50
  go_wp2_with fail
  refine H1.out.mono ?_
  rintro _ w1 ⟨rfl,g1⟩;rw[<- HP.out.2] at g1;go_wp2
  go_ret2
  exact⟨rfl,bel3 HP.out.1 g1⟩
theorem enb (x:En) (m:Nat) (h:enOk x m=true):∃ B P N:Nat,x.b=B∧x.a=P∧x.n=N∧B<m∧P<=600∧N<=200:=by
 obtain⟨_,h1,h2,h3⟩:=(ZO x m).1 h;exact⟨x.b.toNat,x.a.toNat,x.n.toNat,by omega,by omega,by omega,by omega,by omega,by omega⟩
theorem Z80 (a:Option Addr) (n c:Nat) (A:Ar) (s:ByteArray) (w:World) (H:Z5 w a n A):
  Calls Tryz.prog 18 #[.agg #[.slice a n c],.string s] w fun e w'=>e=.returned (.tuple #[.string (str (getA A s).1),.int .i64 (getA A s).2])∧Below w.heap.size w w':=by
 obtain⟨W,hW⟩:∃ W,W=w.alloc (.cells #[.slice a n c] 26):=⟨_,rfl⟩;have hB:Below w.heap.size w W:=by rw[hW]; go_grown
 have k0:Own W w.heap.size 26 [.slice a n c]:=by rw[hW]; exact Own.made w _ _
 have CA:=Tc a n c A W (H.below hB);rw[hW] at CA;have HP:=hid (And.intro hB (And.intro hW (And.intro k0 (H.below hB))));unfold getA;obtain⟨R,hR⟩:∃ R,opn A=R:=⟨_,rfl⟩;rw[hR] at CA ⊢;obtain⟨C,T⟩:=R;dsimp only at CA ⊢;have H1:=hid CA;clear CA hR hB hW H k0
 by_cases e:T=0
 ·rw[if_pos e]
  subst e;have e0:((0:Int) != 0)=false:=rfl;unfold getC;have FK:=Z56 C s;have CF:=hid (fun x n1 d x' m d' wx (h:ZW wx x n1 d x' m C)=>Z0b x n1 d x' m d' C s wx h)
  obtain⟨R,hR⟩:∃ R,ZD C s=R:=⟨_,rfl⟩;rw[hR] at FK CF ⊢;obtain⟨X,F⟩:=R;dsimp only at FK CF ⊢;change Hid (∀ (x:Option Addr) (n1 d:Nat) (x':Option Addr) (m d':Nat) (wx:World),ZW wx x n1 d x' m C->Calls Tryz.prog _ _ wx fun e w'=>e=.returned (.tuple #[.agg #[.string X.s,.int .i64 X.b,.int .i64 X.a,.int .i64 X.n],.int .i64 F])∧Below wx.heap.size wx w') at CF
  clear hR
  by_cases f:F=0
  ·rw[if_pos f]
   obtain⟨_,i,hi,hX,hok,_⟩:=FK f;rw[<- hX] at hok;subst f;obtain⟨B,P,N,b1,b2,b3,b4,b5,b6⟩:=enb X _ hok;rw[b1];have FB:Hid (getB X=fun r=>if r.2=0 then (if r.1.length<P+N then ([],9) else (cut r.1 P (P+N),0)) else ([],r.2)):=by
    show _=_
    funext r
    rw[getB,b2,b3]; rfl
   rw[FB.out];rw[b1,b2,b3] at CF;have CU:=hid (fun wx (g:Below W.heap.size W wx)=>Jb a n c A (bk C.1 B) wx (HP.out.2.2.2.below g))
   obtain⟨R,hR⟩:∃ R,getU A (bk C.1 (B:Int).toNat)=R:=⟨_,rfl⟩;rw[hR];rw[Int.toNat_natCast] at hR;rw[hR] at CU;obtain⟨U,V⟩:=R;dsimp only at CU ⊢;have hB0:(0:Int)<=B:=by omega
   obtain⟨O,hO⟩:∃ O:List UInt8 × Int,O=if V=0 then (if U.length<P+N then ([],9) else (cut U P (P+N),0)) else ([],V):=⟨_,rfl⟩
   rw[<- hO];have HO:=hid hO;clear hO hR FK FB hX hok b1 b2 b3 hi;generalize X.s=xs at CF;go_enter Tryz.func18,Tryz.ntmps18
   go_wp2_with fail
   refine H1.out.mono ?_
   rintro _ w1 ⟨x,n1,d,x',m,d',rfl,hX,g1⟩;rw[<- HP.out.2.1] at g1;dsimp only at hX;obtain⟨W2,hW2⟩:∃ W2,W2=w1.alloc (.cells #[.slice x n1 d,.slice x' m d'] 83):=⟨_,rfl⟩;have b2:Below w1.heap.size w1 W2:=by rw[hW2]; go_grown
   have k2:Own W2 w1.heap.size 83 [.slice x n1 d,.slice x' m d']:=by rw[hW2]; exact Own.made w1 _ _
   have C2:=hid (CF.out x n1 d x' m d' W2 (hX.below b2));have hn1:=hid (show n1=C.1.length from hX.B.sn);have K2:=hid (And.intro (g1.trans (b2.mono g1.size)) (And.intro k2 (hX.below b2)));have c0:=k2.cell (i:=0) rfl;have c1:=k2.cell (i:=1) rfl;clear k2 b2 g1 hX CF H1;go_upto_region 2 with fail
   rw[<- hW2];clear hW2;generalize w1.heap.size=p2 at K2 c0 c1 ⊢;go_wp2_with fail
   refine C2.out.mono ?_
   rintro _ w3 ⟨rfl,g3⟩;obtain⟨W3,hW3⟩:∃ W3,W3=w3.alloc (.cells #[.string xs,.int .i64 B,.int .i64 P,.int .i64 N] 95):=⟨_,rfl⟩;have b3:Below w3.heap.size w3 W3:=by rw[hW3]; go_grown
   have k3:Own W3 w3.heap.size 95 [.string xs,.int .i64 B,.int .i64 P,.int .i64 N]:=by rw[hW3]; exact Own.made w3 _ _
   have g4:=bel3 g3 b3;have G4:=K2.out.1.trans (g4.mono K2.out.1.size);clear c0 c1;have c0:=(K2.out.2.1.below' g4).cell (i:=0) rfl;have z0:=(HP.out.2.2.1.below' G4).cell (i:=0) rfl;have t1:=k3.cell (i:=1) rfl;have hB1:(B:Int)<n1:=by have:=hn1.out; omega
   obtain⟨bb,oo,rfl,hbb,y0,y1⟩:=(K2.out.2.2.below g4).B.c B (by omega)
   have K3:=hid (And.intro G4 k3);clear C2 k3 b3 g3 g4 G4;go_upto_region 5 with fail
   rw[<- hW3];clear hW3;generalize w3.heap.size=p3 at K3 t1 ⊢;generalize (bk C.1 B).f=bf at y0 CU;generalize (bk C.1 B).n=bn at y1 CU;obtain⟨Z,hZ⟩:∃ Z,str U=Z:=⟨_,rfl⟩;have hz:Z.size=U.length:=by rw[<- hZ,str_size]
   have HZ:=hid (show ∀ p q,Z.extract p q=str (cut U p q) by intro p q; rw[ext_str,<- hZ,str_list])
   rw[hZ] at CU;clear hZ;go_upto_region 7 with fail
   go_cut [7,9] (fun s7 s9 wx=>s7=.int .i64 V∧s9=.string Z∧Below W3.heap.size W3 wx)
   case first=>
    go_region_with (go_at_call 50; refine (CU.out _ (K3.out.1.drew)).mono ?_; rintro _ w5 ⟨rfl,g5⟩)
    all_goals (go_wp2_with fail; go_meet)
    all_goals exact⟨rfl,rfl,undrew g5⟩
   case rest=>
    obtain⟨rfl,rfl,g6⟩:=hcut;have t2:=(K3.out.2.below' g6).cell (i:=2) rfl;have t3:=(K3.out.2.below' g6).cell (i:=3) rfl;have G6:=hid (HP.out.1.trans ((K3.out.1.trans (g6.mono K3.out.1.size)).mono HP.out.1.size));clear g6 c0 z0 t1 y0 y1 CU K3 K2
    by_cases v:V=0
    ·subst v
     by_cases q:U.length<P+N
     ·have q':(Z.size:Int)<(P:Int)+N:=by omega
      have E:=hid (show O=([],9) by rw[HO.out,if_pos rfl,if_pos q])
      go_wp2
      go_ret2
      exact⟨by rw[E.out]; rfl,G6.out⟩
     ·have q':¬ (Z.size:Int)<(P:Int)+N:=by omega
      have q2:(P:Int)+N<=Z.size:=by omega
      have q3:(0:Int)<=P:=by omega
      have q4:(0:Int)<=N:=by omega
      have q5:(P:Int)<=(P:Int)+N:=by omega
      have E:=hid (show O=(cut U P (P+N),0) by rw[HO.out,if_pos rfl,if_neg q])
      clear hz;go_wp2_with fail
      go_ret2
      refine⟨?_,G6.out⟩
      rw[E.out];show _=Ending.returned (.tuple #[.string (str (cut U P (P+N))),.int .i64 0])
      rw[<- HZ.out]
      rfl
    ·have v0:(V != 0)=true:=by rw[bne_iff_ne]; exact v
     have E:=hid (show O=([],V) by rw[HO.out,if_neg v])
     clear v;go_wp2
     go_ret2
     exact⟨by rw[E.out]; rfl,G6.out⟩
  ·rw[if_neg f]
   have f0:(F != 0)=true:=by rw[bne_iff_ne]; exact f
   clear FK f;go_enter Tryz.func18,Tryz.ntmps18
   go_wp2_with fail
   refine H1.out.mono ?_
   rintro _ w1 ⟨x,n1,d,x',m,d',rfl,hX,g1⟩;rw[<- HP.out.2.1] at g1;dsimp only at hX;obtain⟨W2,hW2⟩:∃ W2,W2=w1.alloc (.cells #[.slice x n1 d,.slice x' m d'] 83):=⟨_,rfl⟩;have b2:Below w1.heap.size w1 W2:=by rw[hW2]; go_grown
   have k2:Own W2 w1.heap.size 83 [.slice x n1 d,.slice x' m d']:=by rw[hW2]; exact Own.made w1 _ _
   have C2:=hid (CF.out x n1 d x' m d' W2 (hX.below b2));have K2:=hid (bel3 HP.out.1 (g1.trans (b2.mono g1.size)));have c0:=k2.cell (i:=0) rfl;have c1:=k2.cell (i:=1) rfl;clear k2 b2 g1 hX CF H1;go_upto_region 2 with fail
   rw[<- hW2];clear hW2;generalize w1.heap.size=p2 at c0 c1 ⊢;go_wp2_with fail
   refine C2.out.mono ?_
   rintro _ w3 ⟨rfl,g3⟩;have G:=hid ((bel3 K2.out g3).alloc (bel3 K2.out g3).size (.cells #[.string X.s,.int .i64 X.b,.int .i64 X.a,.int .i64 X.n] 95));clear c0 c1 g3 C2;go_wp2
   go_ret2
   exact⟨rfl,G.out⟩
 ·rw[if_neg e]
  have e0:(T != 0)=true:=by rw[bne_iff_ne]; exact e
  go_enter Tryz.func18,Tryz.ntmps18
  go_wp2_with fail
  refine H1.out.mono ?_
  rintro _ w1 ⟨x,n1,d,x',m,d',rfl,hX,g1⟩;rw[<- HP.out.2.1] at g1;have G:=hid ((bel3 HP.out.1 g1).alloc (bel3 HP.out.1 g1).size (.cells #[.slice x n1 d,.slice x' m d'] 83));clear hX g1 H1;go_wp2
  go_ret2
  exact⟨rfl,G.out⟩
theorem Z7Z (a:Option Addr) (n c:Nat) (A:Ar) (s:ByteArray) (w:World) (H:Z5 w a n A):
  Calls Tryz.prog 31 #[.agg #[.slice a n c],.string s] w fun e w'=>e=.returned (.tuple #[.string (str (getA A s).1),.int .i64 (getA A s).2])∧Below w.heap.size w w':=by
 obtain⟨W,hW⟩:∃ W,W=w.alloc (.cells #[.slice a n c] 26):=⟨_,rfl⟩;have hB:Below w.heap.size w W:=by rw[hW]; go_grown
 have k0:Own W w.heap.size 26 [.slice a n c]:=by rw[hW]; exact Own.made w _ _
 have CA:=Yx a n c A W (H.below hB);rw[hW] at CA;have HP:=hid (And.intro hB (And.intro hW (And.intro k0 (H.below hB))));unfold getA;obtain⟨R,hR⟩:∃ R,opn A=R:=⟨_,rfl⟩;rw[hR] at CA ⊢;obtain⟨C,T⟩:=R;dsimp only at CA ⊢;have H1:=hid CA;clear CA hR hB hW H k0
 by_cases e:T=0
 ·rw[if_pos e]
  subst e;have e0:((0:Int) != 0)=false:=rfl;unfold getC;have FK:=Z56 C s;have CF:=hid (fun x n1 d x' m d' wx (h:ZW wx x n1 d x' m C)=>Z0R x n1 d x' m d' C s wx h)
  obtain⟨R,hR⟩:∃ R,ZD C s=R:=⟨_,rfl⟩;rw[hR] at FK CF ⊢;obtain⟨X,F⟩:=R;dsimp only at FK CF ⊢;change Hid (∀ (x:Option Addr) (n1 d:Nat) (x':Option Addr) (m d':Nat) (wx:World),ZW wx x n1 d x' m C->Calls Tryz.prog _ _ wx fun e w'=>e=.returned (.tuple #[.agg #[.string X.s,.int .i64 X.b,.int .i64 X.a,.int .i64 X.n],.int .i64 F])∧Below wx.heap.size wx w') at CF
  clear hR
  by_cases f:F=0
  ·rw[if_pos f]
   obtain⟨_,i,hi,hX,hok,_⟩:=FK f;rw[<- hX] at hok;subst f;obtain⟨B,P,N,b1,b2,b3,b4,b5,b6⟩:=enb X _ hok;rw[b1];have FB:Hid (getB X=fun r=>if r.2=0 then (if r.1.length<P+N then ([],9) else (cut r.1 P (P+N),0)) else ([],r.2)):=by
    show _=_
    funext r
    rw[getB,b2,b3]; rfl
   rw[FB.out];rw[b1,b2,b3] at CF;have CU:=hid (fun wx (g:Below W.heap.size W wx)=>VU a n c (bk C.1 B).f (bk C.1 B).n A wx (HP.out.2.2.2.below g))
   have hl:=Ux A (bk C.1 B).f (bk C.1 B).n;obtain⟨R,hR⟩:∃ R,getU A (bk C.1 (B:Int).toNat)=R:=⟨_,rfl⟩;rw[hR];rw[Int.toNat_natCast] at hR;unfold getU at hR;obtain⟨Q,hQ⟩:∃ Q,Zn A (bk C.1 B).f (bk C.1 B).n=Q:=⟨_,rfl⟩;rw[hQ] at CU hl hR;obtain⟨S,E0⟩:=Q;obtain⟨U,V⟩:=R;dsimp only at CU hl hR ⊢;have HU:=hid (fun (q:E0=0)=>show unp [] S=(U,V) by rw[<- hR,if_pos q])
   have HU2:=hid (fun (q:E0≠0)=>show U=[]∧V=E0 by rw[if_neg q] at hR; cases hR; exact⟨rfl,rfl⟩)
   clear hQ;have hB0:(0:Int)<=B:=by omega
   obtain⟨O,hO⟩:∃ O:List UInt8 × Int,O=if V=0 then (if U.length<P+N then ([],9) else (cut U P (P+N),0)) else ([],V):=⟨_,rfl⟩
   rw[<- hO];have HO:=hid hO;clear hO hR FK FB hX hok b1 b2 b3 hi;generalize X.s=xs at CF;go_enter Tryz.func31,Tryz.ntmps31
   go_wp2_with fail
   refine H1.out.mono ?_
   rintro _ w1 ⟨x,n1,d,x',m,d',rfl,hX,g1⟩;rw[<- HP.out.2.1] at g1;dsimp only at hX;obtain⟨W2,hW2⟩:∃ W2,W2=w1.alloc (.cells #[.slice x n1 d,.slice x' m d'] 83):=⟨_,rfl⟩;have b2:Below w1.heap.size w1 W2:=by rw[hW2]; go_grown
   have k2:Own W2 w1.heap.size 83 [.slice x n1 d,.slice x' m d']:=by rw[hW2]; exact Own.made w1 _ _
   have C2:=hid (CF.out x n1 d x' m d' W2 (hX.below b2));have hn1:=hid (show n1=C.1.length from hX.B.sn);have K2:=hid (And.intro (g1.trans (b2.mono g1.size)) (And.intro k2 (hX.below b2)));have c0:=k2.cell (i:=0) rfl;have c1:=k2.cell (i:=1) rfl;clear k2 b2 g1 hX CF H1;go_upto_region 2 with fail
   rw[<- hW2];clear hW2;generalize w1.heap.size=p2 at K2 c0 c1 ⊢;go_wp2_with fail
   refine C2.out.mono ?_
   rintro _ w3 ⟨rfl,g3⟩;obtain⟨W3,hW3⟩:∃ W3,W3=w3.alloc (.cells #[.string xs,.int .i64 B,.int .i64 P,.int .i64 N] 95):=⟨_,rfl⟩;have b3:Below w3.heap.size w3 W3:=by rw[hW3]; go_grown
   have k3:Own W3 w3.heap.size 95 [.string xs,.int .i64 B,.int .i64 P,.int .i64 N]:=by rw[hW3]; exact Own.made w3 _ _
   have g4:=bel3 g3 b3;have G4:=K2.out.1.trans (g4.mono K2.out.1.size);clear c0 c1;have c0:=(K2.out.2.1.below' g4).cell (i:=0) rfl;have z0:=(HP.out.2.2.1.below' G4).cell (i:=0) rfl;have t1:=k3.cell (i:=1) rfl;have hB1:(B:Int)<n1:=by have:=hn1.out; omega
   obtain⟨bb,oo,rfl,hbb,y0,y1⟩:=(K2.out.2.2.below g4).B.c B (by omega)
   have K3:=hid (And.intro G4 k3);clear C2 k3 b3 g3 g4 G4;go_upto_region 5 with fail
   rw[<- hW3];clear hW3;generalize w3.heap.size=p3 at K3 t1 ⊢;generalize (bk C.1 B).f=bf at y0 CU;generalize (bk C.1 B).n=bn at y1 CU;have CP:=hid (fun wx=>Tf (str S) wx (by rw[str_size]; omega))
   rw[str_list] at CP;clear hl;generalize str S=Y at CU CP;go_upto_region 7 with fail
   go_cut [10,11] (fun s10 s11 wx=>s10=.string Y∧s11=.int .i64 E0∧Below W3.heap.size W3 wx)
   case first=>
    go_region_held3 (fun w'=>w'.cell? ⟨w.heap.size,0,none⟩=some (.slice a n c)∧w'.cell? ⟨p2,0,none⟩=some (.slice (some ⟨bb,oo,none⟩) n1 d)∧w'.cell? ⟨p3,1,none⟩=some (.int .i64 B)∧w'.cell? ⟨bb,oo+B*2,none⟩=some (.int .i64 bf)∧w'.cell? ⟨bb,oo+B*2+1,none⟩=some (.int .i64 bn)) (go_keep) (first | (go_at_call 71; refine (CU.out _ (K3.out.1.drew)).mono ?_; rintro _ w5 ⟨rfl,g5⟩; (have j0:=T3 (undrew g5) z0); (have j1:=T3 (undrew g5) c0); (have j2:=T3 (undrew g5) t1); (have j3:=T3 (undrew g5) y0); (have j4:=T3 (undrew g5) y1)))
    all_goals (go_wp2_with fail; go_meet)
    all_goals exact⟨rfl,rfl,undrew g5⟩
   case rest=>
    obtain⟨rfl,rfl,g6⟩:=hcut;have t2:=(K3.out.2.below' g6).cell (i:=2) rfl;have t3:=(K3.out.2.below' g6).cell (i:=3) rfl;have G6:=hid (HP.out.1.trans ((K3.out.1.trans (g6.mono K3.out.1.size)).mono HP.out.1.size));have K6:=hid (K3.out.2.below' g6);clear g6 c0 z0 t1 y0 y1 CU K3 K2
    by_cases q0:E0=0
    ·rw[HU.out q0] at CP
     subst q0;obtain⟨Z,hZ⟩:∃ Z,str U=Z:=⟨_,rfl⟩;have hz:Z.size=U.length:=by rw[<- hZ,str_size]
     have HZ:=hid (show ∀ p q,Z.extract p q=str (cut U p q) by intro p q; rw[ext_str,<- hZ,str_list])
     change Hid (∀ wx,Calls Tryz.prog _ _ wx fun e w'=>e=.returned (.tuple #[.string (str U),.int .i64 V])∧Below wx.heap.size wx w') at CP
     rw[hZ] at CP;clear hZ HU HU2 t2 t3;go_wp2_with fail
     refine (CP.out _).mono ?_
     rintro _ w7 ⟨rfl,g7⟩;have t2:=(K6.out.below' g7).cell (i:=2) rfl;have t3:=(K6.out.below' g7).cell (i:=3) rfl;have G7:=hid (bel3 G6.out g7);clear g7 CP
     by_cases v:V=0
     ·subst v
      by_cases q:U.length<P+N
      ·have q':(Z.size:Int)<(P:Int)+N:=by omega
       have E:=hid (show O=([],9) by rw[HO.out,if_pos rfl,if_pos q])
       go_wp2
       go_ret2
       exact⟨by rw[E.out]; rfl,G7.out⟩
      ·have q':¬ (Z.size:Int)<(P:Int)+N:=by omega
       have q2:(P:Int)+N<=Z.size:=by omega
       have q3:(0:Int)<=P:=by omega
       have q4:(0:Int)<=N:=by omega
       have q5:(P:Int)<=(P:Int)+N:=by omega
       have E:=hid (show O=(cut U P (P+N),0) by rw[HO.out,if_pos rfl,if_neg q])
       clear hz;go_wp2_with fail
       go_ret2
       refine⟨?_,G7.out⟩
       rw[E.out];show _=Ending.returned (.tuple #[.string (str (cut U P (P+N))),.int .i64 0])
       rw[<- HZ.out]
       rfl
     ·have v0:(V != 0)=true:=by rw[bne_iff_ne]; exact v
      have E:=hid (show O=([],V) by rw[HO.out,if_neg v])
      clear v;go_wp2
      go_ret2
      exact⟨by rw[E.out]; rfl,G7.out⟩
    ·have v0:(E0 != 0)=true:=by rw[bne_iff_ne]; exact q0
     have E:=hid (show O=([],E0) by rw[HO.out,if_neg (by rw[(HU2.out q0).2]; exact q0),(HU2.out q0).2])
     clear q0 HU HU2;go_wp2
     go_ret2
     exact⟨by rw[E.out]; rfl,G6.out⟩
  ·rw[if_neg f]
   have f0:(F != 0)=true:=by rw[bne_iff_ne]; exact f
   clear FK f;go_enter Tryz.func31,Tryz.ntmps31
   go_wp2_with fail
   refine H1.out.mono ?_
   rintro _ w1 ⟨x,n1,d,x',m,d',rfl,hX,g1⟩;rw[<- HP.out.2.1] at g1;dsimp only at hX;obtain⟨W2,hW2⟩:∃ W2,W2=w1.alloc (.cells #[.slice x n1 d,.slice x' m d'] 83):=⟨_,rfl⟩;have b2:Below w1.heap.size w1 W2:=by rw[hW2]; go_grown
   have k2:Own W2 w1.heap.size 83 [.slice x n1 d,.slice x' m d']:=by rw[hW2]; exact Own.made w1 _ _
   have C2:=hid (CF.out x n1 d x' m d' W2 (hX.below b2));have K2:=hid (bel3 HP.out.1 (g1.trans (b2.mono g1.size)));have c0:=k2.cell (i:=0) rfl;have c1:=k2.cell (i:=1) rfl;clear k2 b2 g1 hX CF H1;go_upto_region 2 with fail
   rw[<- hW2];clear hW2;generalize w1.heap.size=p2 at c0 c1 ⊢;go_wp2_with fail
   refine C2.out.mono ?_
   rintro _ w3 ⟨rfl,g3⟩;have G:=hid ((bel3 K2.out g3).alloc (bel3 K2.out g3).size (.cells #[.string X.s,.int .i64 X.b,.int .i64 X.a,.int .i64 X.n] 95));clear c0 c1 g3 C2;go_wp2
   go_ret2
   exact⟨rfl,G.out⟩
 ·rw[if_neg e]
  have e0:(T != 0)=true:=by rw[bne_iff_ne]; exact e
  go_enter Tryz.func31,Tryz.ntmps31
  go_wp2_with fail
  refine H1.out.mono ?_
  rintro _ w1 ⟨x,n1,d,x',m,d',rfl,hX,g1⟩;rw[<- HP.out.2.1] at g1;have G:=hid ((bel3 HP.out.1 g1).alloc (bel3 HP.out.1 g1).size (.cells #[.slice x n1 d,.slice x' m d'] 83));clear hX g1 H1;go_wp2
  go_ret2
  exact⟨rfl,G.out⟩
end Go.Proofs.YtdnacpbgodooaaaGreatDoor
namespace Go.Proofs.YtdnacpbgodooaaaGreatDoor
open Go.RowKit Go.Lib
theorem UP:(Tryz.prog.info? 9).map (fun i=>(i.zero,i.size,i.bytes))=some (some (.string ⟨#[]⟩),1,16):=by kernel_rfl
theorem Z3g:(Tryz.prog.info? 4).map (fun i=>(i.zero,i.size,i.bytes))=some (some (.bool false),1,1):=by kernel_rfl
theorem VB {w:World} {base e e':Nat} {v v':Value} {n n':Nat} {xs xs':List Value} (h:w.ownsRow base e 1 v n xs) (h':w.ownsRow base e' 1 v' n' xs') (he:e≠e'):v.ownBlock=none∨v.ownBlock≠v'.ownBlock:=by
 rcases h.2 with ⟨rfl,_⟩ | ⟨g,cap,cur,rfl,_,hg,_⟩
 ·exact .inl rfl
 ·rcases h'.2 with ⟨rfl,_⟩ | ⟨g',cap',cur',rfl,_,hg',_⟩
  ·exact .inr (by simp[Value.ownBlock])
  ·refine .inr (fun e0=>?_)
   have:g=g':=by simpa[Value.ownBlock] using e0
   subst this;rw[hg] at hg';cases hg'
   exact he rfl
theorem Y0 {w w':World} (g:Below w.heap.size w w'):w.grownBy w' none:=⟨g.os,g.tape,g.output,g.size,fun k hk _=>g.block k hk⟩
theorem Xu (w:World) {ops:Array Oper} {rest:List Oper} {o:Oper} {a:Act} {Q:Exit->Act->World->Prop} (hgd:o.guard=none) (s x:Operand) (t e:TypeId) (z:Value) (bytes:Nat)
  (ho:o.op=.call { callee:=.builtin .append,args:=#[s,x],argTypes:=#[t,t] }) (ht:Tryz.prog.underlying t=some (.slice e)) (hinfo:(Tryz.prog.info? e).map (fun i=>(i.zero,i.size,i.bytes))=some (some z,1,bytes)) (hz:z.cells.size=1)
  (base:Nat) (v:Value) (n:Nat) (xs:List Value) (hs:a.eval s=v) (hown:w.ownsRow base e 1 v n xs)
  (ad:Addr) (u:Value) (hx:a.eval x=.slice (some ad) 1 1) (hu:w.cell? ad=some u) (h1:u.oneCell'=true) (h63:n+1<=maxLen) (hb:(n+1)*bytes<=140737488355328) (hbase:base<=w.heap.size)
  (h:∀ g m cap w',Hid (m=n+1)->base<=g->w'.ownsRow base e 1 (.slice (some ⟨g,0,none⟩) m cap) m (xs++[u])->w.grownBy w' v.ownBlock->wpList Tryz.prog ops Q rest (a.put o.dst (.slice (some ⟨g,0,none⟩) m cap)) w'):
  wpList Tryz.prog ops Q (o::rest) a w:=by
 obtain⟨i0,hi,hz0,hz1,hz2⟩:=info_parts hinfo;refine wpList_append_own w hgd s x t ho base e i0 z 1 bytes ht hi hz0 hz1 hz2 hz (by decide) v n xs hs hown ad 1 1 [u] hx rfl (fun j y hj=>?_) (by simpa using h1) h63 hb hbase ?_
 ·match j,hj with
  | 0,hj=>simp at hj; subst hj; exact hu
 ·intro v' w' r1 r2 _
  obtain⟨g,cap,rfl,hg⟩:=Zb r1 (by omega)
  exact h g _ cap w' rfl hg r1 r2
structure OfI (w:World) (a:Option Addr) (n c:Nat) (a':Option Addr) (n' c':Nat) (V V':List Value) (W:World):Prop where
 res:Box2 W w.heap.size (.slice none 0 0) (.slice none 0 0)
 dbox:Box2 W (w.heap.size+1) (.slice a n c) (.slice a' n' c')
 s:W.ownsRow (w.heap.size+2) 9 1 (.slice a n c) n V
 l:W.ownsRow (w.heap.size+2) 4 1 (.slice a' n' c') n' V'
 below:Below w.heap.size w W
section
variable {w W W':World} {a a':Option Addr} {n c n' c':Nat} {V V':List Value}
theorem OfI.size (h:OfI w a n c a' n' c' V V' W):w.heap.size+2<=W.heap.size:=h.dbox.lt
theorem OfI.to (h:OfI w a n c a' n' c' V V' W) (g:Below W.heap.size W W'):OfI w a n c a' n' c' V V' W':=by
 refine⟨h.res.below g,h.dbox.below g,h.s.kept (Y0 g) ?_,h.l.kept (Y0 g) ?_,h.below.trans (g.mono h.below.size)⟩
 ·cases hv:(Value.slice a n c).ownBlock
  ·exact .inl rfl
  ·exact .inr (by simp)
 ·cases hv:(Value.slice a' n' c').ownBlock
  ·exact .inl rfl
  ·exact .inr (by simp)
theorem OfI.alloc (h:OfI w a n c a' n' c' V V' W) (o:Obj):OfI w a n c a' n' c' V V' (W.alloc o):=h.to ((Below.refl _ W).alloc (Nat.le_refl _) o)
theorem Vw {p:Nat} {d1 d2 v:Value} {base e:Nat} {xs:List Value} {k:Nat} (h:Box2 W p d1 d2) (hv:W.ownsRow base e 1 v k xs) (hp:p<base) (g:W.grownBy W' v.ownBlock):Box2 W' p d1 d2:=by
 have e:W'.heap[p]?=W.heap[p]?:=g.block p h.lt (fun e=>by have:=(hv.lt p e.symm).1; omega)
 exact⟨(World.cell?_of_block (a:=⟨p,0,none⟩) e).trans h.c0,(World.cell?_of_block (a:=⟨p,1,none⟩) e).trans h.c1,(World.frozen?_of_block (a:=⟨p,0,none⟩) e).trans h.f0,(World.frozen?_of_block (a:=⟨p,1,none⟩) e).trans h.f1,Nat.lt_of_lt_of_le h.lt g.size⟩
theorem WV {base e:Nat} {v:Value} {xs:List Value} {k:Nat} (h:Below w.heap.size w W) (hv:W.ownsRow base e 1 v k xs) (hb:w.heap.size<=base) (g:W.grownBy W' v.ownBlock):Below w.heap.size w W':=
 h.grown g h.size (fun k hk=>by have:=(hv.lt k hk).1; omega)
theorem box_set0 {p:Nat} {d1 d2:Value} (h:Box2 W p d1 d2) (v:Value):Box2 (W.setCell ⟨p,0,none⟩ v) p v d2:=by
 refine⟨World.cell?_setCell_same _ _ _ h.c0,?_,?_,?_,?_⟩
 ·rw[World.cell?_setCell_other _ _ _ _ (by simp)]; exact h.c1
 ·rw[World.frozen?_setCell]; exact h.f0
 ·rw[World.frozen?_setCell]; exact h.f1
 ·have:=h.lt; simpa[World.setCell] using this
theorem box_set1 {p:Nat} {d1 d2:Value} (h:Box2 W p d1 d2) (v:Value):Box2 (W.setCell ⟨p,1,none⟩ v) p d1 v:=by
 refine⟨?_,World.cell?_setCell_same _ _ _ h.c1,?_,?_,?_⟩
 ·rw[World.cell?_setCell_other _ _ _ _ (by simp)]; exact h.c0
 ·rw[World.frozen?_setCell]; exact h.f0
 ·rw[World.frozen?_setCell]; exact h.f1
 ·have:=h.lt; simpa[World.setCell] using this
theorem OfI.putS (h:OfI w a n c a' n' c' V V' W) {a2:Option Addr} {n2 c2:Nat} {V2:List Value} (g:W.grownBy W' (Value.slice a n c).ownBlock) (ho:W'.ownsRow (w.heap.size+2) 9 1 (.slice a2 n2 c2) n2 V2):
  Box2 W' (w.heap.size+1) (.slice a n c) (.slice a' n' c')∧OfI w a2 n2 c2 a' n' c' V2 V' (W'.setCell ⟨w.heap.size+1,0,none⟩ (.slice a2 n2 c2)):=by
 have b1:=Vw h.dbox h.s (by omega) g
 have b0:=Vw h.res h.s (by omega) g
 have l1:=h.l.kept g (VB h.l h.s (by decide))
 exact⟨b1,b0.other (by show w.heap.size≠w.heap.size+1; omega) _,box_set0 b1 _,ownsRow_setCell_below ho (by show w.heap.size+1<w.heap.size+2; omega) _,ownsRow_setCell_below l1 (by show w.heap.size+1<w.heap.size+2; omega) _,(WV h.below h.s (by omega) g).setCell (by show w.heap.size<=w.heap.size+1; omega) _⟩
theorem OfI.putL (h:OfI w a n c a' n' c' V V' W) {a2:Option Addr} {n2 c2:Nat} {V2:List Value} (g:W.grownBy W' (Value.slice a' n' c').ownBlock) (ho:W'.ownsRow (w.heap.size+2) 4 1 (.slice a2 n2 c2) n2 V2):
  Box2 W' (w.heap.size+1) (.slice a n c) (.slice a' n' c')∧OfI w a n c a2 n2 c2 V V2 (W'.setCell ⟨w.heap.size+1,1,none⟩ (.slice a2 n2 c2)):=by
 have b1:=Vw h.dbox h.l (by omega) g
 have b0:=Vw h.res h.l (by omega) g
 have l1:=h.s.kept g (VB h.s h.l (by decide))
 exact⟨b1,b0.other (by show w.heap.size≠w.heap.size+1; omega) _,box_set1 b1 _,ownsRow_setCell_below l1 (by show w.heap.size+1<w.heap.size+2; omega) _,ownsRow_setCell_below ho (by show w.heap.size+1<w.heap.size+2; omega) _,(WV h.below h.l (by omega) g).setCell (by show w.heap.size<=w.heap.size+1; omega) _⟩
end
theorem Z4z (w:World):OfI w none 0 0 none 0 0 [] [] ((w.alloc (.cells #[.slice none 0 0,.slice none 0 0] 56)).alloc (.cells #[.slice none 0 0,.slice none 0 0] 56)):=by
 have o1:Own (w.alloc (.cells #[.slice none 0 0,.slice none 0 0] 56)) w.heap.size 56 [.slice none 0 0,.slice none 0 0]:=Own.made w 56 [.slice none 0 0,.slice none 0 0];have o2:=Own.made (w.alloc (.cells #[.slice none 0 0,.slice none 0 0] 56)) 56 [.slice none 0 0,.slice none 0 0];rw[show (w.alloc (.cells #[.slice none 0 0,.slice none 0 0] 56)).heap.size=w.heap.size+1 by simp] at o2
 exact⟨box2_of (o1.alloc _),box2_of o2,World.ownsRow_nil _ _ _ _,World.ownsRow_nil _ _ _ _,by go_grown⟩
theorem Qa {w:World} {base e:Nat} {a:Option Addr} {n c:Nat} {V:List Value} (h:w.ownsRow base e 1 (.slice a n c) n V):Zd w a V∧∀ b o,a=some ⟨b,o,none⟩->base<=b:=by
 rcases h.2 with ⟨hv,h0⟩ | ⟨g,cap,cur,hv,hg,_⟩
 ·cases hv
  have:V=[]:=List.eq_nil_of_length_eq_zero (by have:=h.1; omega)
  exact⟨by rw[this]; exact Zd.nil,fun b o e=>by cases e⟩
 ·cases hv
  exact⟨(UM h).1.row,fun b o e=>by cases e; exact hg⟩
theorem of_bad (many start:Int) (w:World) (h:¬ (1<=many∧many<=64∧0<=start∧start<=512)):
  Calls Tryz.prog 29 #[.int .i64 many,.int .i64 start] w (OutN w (nil2,2)):=by
 have hK:∀ w',Below w.heap.size w w'->OutN w (nil2,2) (.returned (.tuple #[.agg #[.slice none 0 0,.slice none 0 0],.int .i64 2])) w':=fun w' g=>JL g
 have HK:=hid hK;have i1:=fun wx=>Zm many 1 64 wx
 have i2:=fun wx=>Zm start 0 512 wx
 clear hK
 by_cases h1:1<=many∧many<=64
 ·have h2:¬ (0<=start∧start<=512):=by omega
  rw[decide_eq_true h1] at i1;rw[decide_eq_false h2] at i2;have HI:=hid (And.intro i1 i2);clear i1 i2 h h1 h2;go_enter Tryz.func29,Tryz.ntmps29
  go_wp2_with (first | (go_at_call_of 28 (Value.int IntKind.i64 64); refine (HI.out.1 _).mono ?_; rintro _ w9 ⟨rfl,h9⟩; subst h9) | (go_at_call_of 28 (Value.int IntKind.i64 512); refine (HI.out.2 _).mono ?_; rintro _ w9 ⟨rfl,h9⟩; subst h9))
  refine bodyPost_ret (v:=.tuple #[.agg #[.slice none 0 0,.slice none 0 0],.int .i64 2]) (by simp[results,Tryz.results29,go_sem]) rfl ?_
  exact HK.out _ (by go_grown)
 ·rw[decide_eq_false h1] at i1
  have HI:=hid i1;clear i1 i2 h h1;go_enter Tryz.func29,Tryz.ntmps29
  go_wp2_with (go_at_call_of 28 (Value.int IntKind.i64 64); refine (HI.out _).mono ?_; rintro _ w9 ⟨rfl,h9⟩; subst h9)
  refine bodyPost_ret (v:=.tuple #[.agg #[.slice none 0 0,.slice none 0 0],.int .i64 2]) (by simp[results,Tryz.results29,go_sem]) rfl ?_
  exact HK.out _ (by go_grown)
def ofV (start:Int) (k:Nat):List Value:=(List.range k).map fun (i:Nat)=>.string (str (encd (start+i) []).1)
theorem Z6j (start:Int) (k:Nat):ofV start (k+1)=ofV start k++[.string (str (encd (start+k) []).1)]:=by
 unfold ofV;rw[List.range_succ,List.map_append]
 rfl
theorem of_ok (M:Nat) (start:Int) (w:World) (h0:1<=M) (h1:M<=64) (h2:0<=start) (h3:start<=512):
  Calls Tryz.prog 29 #[.int .i64 M,.int .i64 start] w (OutN w ((((List.range M).map fun (i:Nat)=>str (encd (start+i) []).1),List.replicate M false),0)):=by
 have i1:=fun wx=>Zm M 1 64 wx
 have i2:=fun wx=>Zm start 0 512 wx
 rw[decide_eq_true (show (1:Int)<=M∧(M:Int)<=64 by omega)] at i1
 rw[decide_eq_true (show 0<=start∧start<=512 by omega)] at i2
 have HI:=hid (And.intro i1 i2);have HS:=hid (Z4z w);clear i1 i2;go_enter Tryz.func29,Tryz.ntmps29
 go_wp2_with (first | (go_at_call_of 28 (Value.int IntKind.i64 64); refine (HI.out.1 _).mono ?_; rintro _ w9 ⟨rfl,h9⟩; subst h9) | (go_at_call_of 28 (Value.int IntKind.i64 512); refine (HI.out.2 _).mono ?_; rintro _ w9 ⟨rfl,h9⟩; subst h9))
 go_loopw [7] (fun i wr=>∃ (k:Nat) (a:Option Addr) (n c:Nat) (a':Option Addr) (n' c':Nat),k<=M∧i=.int .i64 k∧Hid (n=k∧n'=k)∧OfI w a n c a' n' c' (ofV start k) (List.replicate k (.bool false)) wr) (fun i _=>M-(intOf i).toNat)
 case atStart=>exact⟨0,none,0,0,none,0,0,Nat.zero_le _,rfl,⟨rfl,rfl⟩,HS.out⟩
 case round=>
  obtain⟨k,a,n,c,a',n',c',hk,rfl,HN,hI⟩:=hrel;clear HS HI
  by_cases hlt:k<M
  ·have hlt':(k:Int)<M:=by omega
   have hE:=fun wx=>Z0c (start+k) ⟨#[]⟩ wx
   have HV:=hid (Z6j start k);change ∀ wx,Calls Tryz.prog 60 _ wx (fun e w'=>e=.returned (.tuple #[.string (str (encd (start+k) []).1),.int .i64 (encd (start+k) []).2])∧Below wx.heap.size wx w') at hE
   generalize encd (start+(k:Int)) []=r at hE HV;have u1:wrap64 (start+(k:Int))=start+(k:Int):=IntWalk.wrap64_in _ (by omega)
   have HE:=hid hE;have HI:=hid hI;clear hE hI;go_wp2_with fail
   refine (HE.out _).mono ?_
   rintro _ w1 ⟨rfl,g1⟩;have I1:=HI.out.to g1;have d0:=I1.dbox.c0;have J1:=hid (And.intro (I1.alloc (.cells #[.string (str r.1)] 9)) I1.size);clear g1 I1 HE HI;go_upto_region 9 with (at_builtin; (refine Xu _ rfl (.tmp 33) (.tmp 35) 31 9 (.string ⟨#[]⟩) 16 rfl Tryz.underlying31 UP rfl (w.heap.size+2) (.slice a n c) n (ofV start k) rfl J1.out.1.s ⟨w1.heap.size,0,none⟩ (.string (str r.1)) rfl ?_ rfl ?_ ?_ ?_ ?_; (simp[go_sem]); (have:=HN.out; unfold maxLen; omega); (have:=HN.out; omega); (exact J1.out.1.size); intro g2 m2 cap2 w2 hm2 hg2 hown2 hgrow2; (have P2:=J1.out.1.putS hgrow2 hown2); (have e0:=P2.1.c0); (have e1:=P2.1.f0); (have J2:=hid P2.2); (have M2:=hid hm2); clear P2 hown2 hgrow2 hm2))
   clear d0 e0 e1;generalize w2.setCell ⟨w.heap.size+1,0,none⟩ (.slice (some ⟨g2,0,none⟩) m2 cap2)=W2 at J2;have d1:=J2.out.dbox.c1;have J3:=hid (J2.out.alloc (.cells #[.bool false] 4));go_wp2_with (at_builtin; (refine Xu _ rfl (.tmp 39) (.tmp 40) 54 4 (.bool false) 1 rfl Tryz.underlying54 Z3g rfl (w.heap.size+2) (.slice a' n' c') n' (List.replicate k (.bool false)) rfl J3.out.l ⟨W2.heap.size,0,none⟩ (.bool false) rfl ?_ rfl ?_ ?_ ?_ ?_; (simp[go_sem]); (have:=HN.out; unfold maxLen; omega); (have:=HN.out; omega); (exact J3.out.size); intro g4 m4 cap4 w4 hm4 hg4 hown4 hgrow4; (have P4:=J3.out.putL hgrow4 hown4); (have e0:=P4.1.c1); (have e1:=P4.1.f1); (have J4:=hid P4.2); (have M4:=hid hm4); clear P4 hown4 hgrow4 hm4))
   go_roundw
   case rel=>
    have x:=J4.out;rw[<- HV.out,<- List.replicate_succ'] at x;exact⟨k+1,some ⟨g2,0,none⟩,m2,cap2,some ⟨g4,0,none⟩,m4,cap4,by omega,by go_num,⟨by have:=M2.out.out; have:=HN.out; omega,by have:=M4.out.out; have:=HN.out; omega⟩,x⟩
   case measure=>simp[intOf]; omega
  ·obtain rfl:k=M:=by omega
   have hnl:¬ (k:Int)<k:=by omega
   have u0:=hI.dbox.c0;have u1:=hI.dbox.c1;have v0:=hI.res.c0;have v1:=hI.res.c1;have x0:=hI.res.f0;have x1:=hI.res.f1;obtain⟨y0,y1⟩:=Z6 (.slice a n c) (.slice a' n' c') v0 v1;have s1:=ownsRow_setCell_below (ownsRow_setCell_below hI.s (a:=⟨w.heap.size,0,none⟩) (by show w.heap.size<w.heap.size+2; omega) (.slice a n c)) (a:=⟨w.heap.size,1,none⟩) (by show w.heap.size<w.heap.size+2; omega) (.slice a' n' c')
   have s2:=ownsRow_setCell_below (ownsRow_setCell_below hI.l (a:=⟨w.heap.size,0,none⟩) (by show w.heap.size<w.heap.size+2; omega) (.slice a n c)) (a:=⟨w.heap.size,1,none⟩) (by show w.heap.size<w.heap.size+2; omega) (.slice a' n' c')
   have s3:=(hI.below.setCell (p:=⟨w.heap.size,0,none⟩) (Nat.le_refl _) (.slice a n c)).setCell (p:=⟨w.heap.size,1,none⟩) (Nat.le_refl _) (.slice a' n' c');obtain⟨t1,t2⟩:=Qa s1;obtain⟨t3,t4⟩:=Qa s2;have K:OutN w ((((List.range k).map fun (i:Nat)=>str (encd (start+i) []).1),List.replicate k false),0) (.returned (.tuple #[.agg #[.slice a n c,.slice a' n' c'],.int .i64 0])) ((wr.setCell ⟨w.heap.size,0,none⟩ (.slice a n c)).setCell ⟨w.heap.size,1,none⟩ (.slice a' n' c')):=by
    obtain⟨g1,cap1,e1,hg1⟩:=Zb s1 (by have:=HN.out; omega)
    obtain⟨g2,cap2,e2,hg2⟩:=Zb s2 (by have:=HN.out; omega)
    cases e1
    cases e2
    refine⟨_,n,c,_,n',c',rfl,⟨.inr ⟨g1,rfl,by omega,?_⟩,.inr ⟨g2,rfl,by omega,?_⟩,fun _ _ x y hx hy=>?_⟩,⟨by have:=HN.out; simp; omega,by have:=HN.out; simp; omega,by have:=HN.out; unfold maxLen; omega,by have:=HN.out; unfold maxLen; omega⟩,?_,s3⟩
    ·show Own _ g1 _ (List.map Value.string (List.map _ _))
     rw[List.map_map]; exact (UM s1).1
    ·show Own _ g2 _ (List.map Value.bool (List.replicate k false))
     rw[List.map_replicate]; exact (UM s2).1
    ·cases hx
     cases hy
     rcases VB s1 s2 (by decide) with h | h
     ·simp[Value.ownBlock] at h
     ·intro e; exact h (by rw[e]; rfl)
    ·rintro b o (e | e)
     ·have:=t2 b o e; omega
     ·have:=t4 b o e; omega
   have HK:=hid K;clear hI s1 s2 s3 t1 t2 t3 t4 K;go_wp2
   refine bodyPost_ret (v:=.tuple #[.agg #[.slice a n c,.slice a' n' c'],.int .i64 0]) (by simp[results,Tryz.results29,go_sem,y0,y1]) rfl ?_
   exact HK.out
theorem Z4y (many start:Int) (w:World):Calls Tryz.prog 29 #[.int .i64 many,.int .i64 start] w (OutN w (dvNew many start)):=by
 unfold dvNew
 by_cases h:1<=many∧many<=64∧0<=start∧start<=512
 ·rw[if_pos h]
  obtain⟨M,rfl⟩:∃ M:Nat,many=M:=⟨many.toNat,by omega⟩
  have e:(M:Int).toNat=M:=by omega
  rw[e];exact of_ok M start w (by omega) (by omega) h.2.2.1 h.2.2.2
 ·rw[if_neg h]
  exact of_bad many start w h
theorem Z7g (many start:Int) (w:World):Calls Tryz.prog 29 #[.int .i64 many,.int .i64 start] w (OutE w (dvNew many start)):=(Z4y many start w).mono fun _ _ h=>h.outE
end Go.Proofs.YtdnacpbgodooaaaGreatDoor
namespace Go.Proofs.YtdnacpbgodooaaaGreatDoor
open Go.RowKit Go.Lib
def nam (E:List En) (k:Nat):List Value:=(E.take k).map fun x=>Value.string x.s
theorem Z6v (E:List En) (k:Nat) (h:k<E.length):nam E (k+1)=nam E k++[.string (en E k).s]:=by rw[nam,en_take E k h,List.map_append]; rfl
theorem Z7S (E:List En):nam E E.length=(namesE E).map .string:=by rw[nam,List.take_length,namesE,List.map_map]; rfl
theorem Z4u (A:Ar) (h:(opn A).2≠0):(opn A).1=nilC:=by
 unfold opn at h ⊢
 split
 ·rename_i h0
  rw[if_pos h0] at h;unfold decC at h ⊢
  split
  ·rfl
  ·split
   ·rfl
   ·split
    ·rename_i q1 q2 q3
     rw[if_neg q1,if_neg q2,if_pos q3] at h;exact absurd rfl h
    ·rfl
 ·rfl
theorem Z4t (A:Ar):(opn A).1.2.length<=10:=by
 by_cases h:(opn A).2=0
 ·exact (Xg _ (Qk A h).1).2.1
 ·rw[Z4u A h]; exact Nat.zero_le _
def OutTx (w:World) (S:List ByteArray) (T:Int) (e:Ending) (w':World):Prop:=∃ a n c,e=.returned (.tuple #[.slice a n c,.int .i64 T])∧(Zd w' a (S.map .string)∧n=S.length∧n<=maxLen)∧Below w.heap.size w w'
def TU (w:World) (S:List ByteArray) (T:Int) (e:Ending) (w':World):Prop:=∃ a n c,e=.returned (.tuple #[.slice a n c,.int .i64 T])∧(Zd w' a (S.map .string)∧n=S.length∧n<=maxLen)∧NewS w.heap.size a n∧Below w.heap.size w w'
theorem TU.out {w w':World} {S:List ByteArray} {T:Int} {e:Ending} (h:TU w S T e w'):OutTx w S T e w':=by
 obtain⟨a,n,c,h1,h2,_,h4⟩:=h;exact⟨a,n,c,h1,h2,h4⟩
structure NamI (w:World) (v:Value) (E:List En) (k:Nat) (wr:World):Prop where
 own:wr.ownsRow w.heap.size 9 1 v k (nam E k)
 below:Below w.heap.size w wr
theorem NamI.out {w0 w wr:World} {a:Option Addr} {n c k:Nat} {E:List En} {T:Int} (h:NamI w (.slice a n c) E k wr) (hk:k=E.length) (hn:n=k) (hm:E.length<=10) (h0:Below w0.heap.size w0 w):TU w0 (namesE E) T (.returned (.tuple #[.slice a n c,.int .i64 T])) wr:=by
 subst hk hn;refine⟨a,E.length,c,rfl,⟨?_,by simp[namesE],by unfold maxLen; omega⟩,(Z1W h.own).less h0.size,h0.trans (h.below.mono h0.size)⟩
 have:=(Qa h.own).1
 rw[Z7S] at this;exact this
theorem NamI.append {w w1 w':World} {v v':Value} {E:List En} {k m:Nat} (h:NamI w v E k w1) (ho:w'.ownsRow w.heap.size 9 1 v' m (nam E k++[.string (en E k).s])) (hm:m=k+1) (hk:k<E.length) (g:w1.grownBy w' v.ownBlock):NamI w v' E (k+1) w':=by
 subst hm;exact⟨by rw[Z6v E k hk]; exact ho,WV h.below h.own (Nat.le_refl _) g⟩
theorem NamI.to {w wr w':World} {v:Value} {E:List En} {k:Nat} (h:NamI w v E k wr) (g:Below wr.heap.size wr w'):NamI w v E k w':=by
 refine⟨h.own.kept (Y0 g) ?_,h.below.trans (g.mono h.below.size)⟩
 cases hv:v.ownBlock
 ·exact .inl rfl
 ·exact .inr (by simp)
theorem Z4I (a:Option Addr) (n c:Nat) (A:Ar) (w:World) (H:Z5 w a n A):
  Calls Tryz.prog 19 #[.agg #[.slice a n c]] w fun e w'=>TU w (namesE (opn A).1.2) (opn A).2 e w':=by
 obtain⟨W,hW⟩:∃ W,W=w.alloc (.cells #[.slice a n c] 26):=⟨_,rfl⟩;have hB:Below w.heap.size w W:=by rw[hW]; go_grown
 have CA:=Tc a n c A W (H.below hB);rw[hW] at CA;have HL:=Z4t A;have HE:=hid (Z4u A);have HP:=hid (And.intro hB hW);obtain⟨R,hR⟩:∃ R,opn A=R:=⟨_,rfl⟩;rw[hR] at CA HL HE ⊢;obtain⟨C,T⟩:=R;dsimp only at CA HL HE ⊢;have H1:=hid CA;clear CA hR hB hW H
 by_cases e:T=0
 ·subst e
  have e0:((0:Int) != 0)=false:=rfl;go_enter Tryz.func19,Tryz.ntmps19
  go_wp2_with fail
  refine H1.out.mono ?_
  rintro _ w1 ⟨x,n1,d,x',m,d',rfl,hX,g1⟩;rw[<- HP.out.2] at g1;have hm:=hid (show m=C.2.length from hX.E.sn);dsimp only at hX;obtain⟨W2,hW2⟩:∃ W2,W2=w1.alloc (.cells #[.slice x n1 d,.slice x' m d'] 83):=⟨_,rfl⟩;have b2:Below w1.heap.size w1 W2:=by rw[hW2]; go_grown
  have N0:NamI W2 (.slice none 0 0) C.2 0 W2:=⟨World.ownsRow_nil _ _ _ _,Below.refl _ _⟩;have G2:=HP.out.1.trans ((g1.trans (b2.mono g1.size)).mono HP.out.1.size);have k1:Own W2 w1.heap.size 83 [.slice x n1 d,.slice x' m d']:=by rw[hW2]; exact Own.made w1 _ _
  have c1:=k1.cell (i:=1) rfl;have HX:=hid (And.intro (hX.E.below b2) (And.intro N0 G2));clear G2 hX g1 H1 N0 k1 b2;go_upto_region 2 with fail
  rw[<- hW2];clear hW2;go_wp2_with fail
  clear c1;go_loopw [6,20] (fun v i wr=>∃ (k:Nat) (a6:Option Addr) (n6 c6:Nat),k<=m∧v=.slice a6 n6 c6∧i=.int .i64 k∧Hid (n6=k∧NamI W2 (.slice a6 n6 c6) C.2 k wr)) (fun _ i _=>m-(RowKit.intOf i).toNat)
  case atStart=>exact⟨0,none,0,0,Nat.zero_le _,rfl,rfl,rfl,HX.out.2.1⟩
  case round=>
   obtain⟨k,a6,n6,c6,hk,rfl,rfl,HI⟩:=hrel
   by_cases hlt:k<m
   ·have hlt':(k:Int)<m:=by omega
    obtain⟨b,o,rfl,hb,x0,x1,x2,x3⟩:=(HX.out.1.below HI.out.2.below).c k hlt;have hk10:k<C.2.length:=by have:=hm.out; omega
    obtain⟨y,hy⟩:∃ y,en C.2 k=y:=⟨_,rfl⟩;rw[hy] at x0 x1 x2 x3;have HY:=hid hy;clear hy;have J:=hid (HI.out.2.to (show Below wr.heap.size wr ((wr.alloc (.cells #[.string y.s,.int .i64 y.b,.int .i64 y.a,.int .i64 y.n] 95)).alloc (.cells #[.string y.s] 9)) by go_grown))
    have HN:=hid HI.out.1;clear HI HX;go_wp2_with (at_builtin; (refine Xu _ rfl (.tmp 24) (.tmp 27) 31 9 (.string ⟨#[]⟩) 16 rfl Tryz.underlying31 UP rfl W2.heap.size (.slice a6 n6 c6) k (nam C.2 k) rfl J.out.own ⟨wr.heap.size+1,0,none⟩ (.string y.s) rfl ?_ rfl ?_ ?_ ?_ ?_; (simp[go_sem]); (unfold maxLen; omega); (omega); (exact J.out.below.size); intro g5 m5 cap5 w5 hm5 hg5 hown5 hgrow5; (have K5:=hid (And.intro hm5.out (J.out.append (by rw[HY.out]; exact hown5) hm5.out hk10 hgrow5))); clear hown5 hgrow5 hm5))
    go_roundw
    case rel=>exact⟨k+1,_,m5,cap5,by omega,rfl,by go_num,K5.out.1,K5.out.2⟩
    case measure=>simp[RowKit.intOf]; omega
   ·have hlt':¬ (k:Int)<m:=by omega
    obtain rfl:k=m:=by omega
    have K:=hid (HI.out.2.out (T:=0) hm.out HI.out.1 HL HX.out.2.2);clear HI;go_wp2
    go_ret2
    exact K.out
 ·have e0:(T != 0)=true:=by rw[bne_iff_ne]; exact e
  have EC:=HE.out e;go_enter Tryz.func19,Tryz.ntmps19
  go_wp2_with fail
  refine H1.out.mono ?_
  rintro _ w1 ⟨x,n1,d,x',m,d',rfl,hX,g1⟩;rw[<- HP.out.2] at g1;have K:=hid (show TU w (namesE C.2) T (.returned (.tuple #[.slice none 0 0,.int .i64 T])) (w1.alloc (.cells #[.slice x n1 d,.slice x' m d'] 83)) by
   rw[EC];exact⟨none,0,0,rfl,⟨Zd.nil,rfl,Nat.zero_le _⟩,newS_nil _ _,(HP.out.1.trans (g1.mono HP.out.1.size)).alloc (Nat.le_trans HP.out.1.size g1.size) _⟩)
  clear hX g1 H1 EC;go_wp2
  go_ret2
  exact K.out
theorem Jy (a:Option Addr) (n c:Nat) (A:Ar) (w:World) (H:Z5 w a n A):
  Calls Tryz.prog 32 #[.agg #[.slice a n c]] w fun e w'=>TU w (namesE (opn A).1.2) (opn A).2 e w':=by
 obtain⟨W,hW⟩:∃ W,W=w.alloc (.cells #[.slice a n c] 26):=⟨_,rfl⟩;have hB:Below w.heap.size w W:=by rw[hW]; go_grown
 have CA:=Yx a n c A W (H.below hB);rw[hW] at CA;have HL:=Z4t A;have HP:=hid (And.intro hB hW);obtain⟨R,hR⟩:∃ R,opn A=R:=⟨_,rfl⟩;rw[hR] at CA HL ⊢;obtain⟨C,T⟩:=R;dsimp only at CA HL ⊢;have H1:=hid CA;clear CA hR hB hW H;go_enter Tryz.func32,Tryz.ntmps32
 go_wp2_with fail
 refine H1.out.mono ?_
 rintro _ w1 ⟨x,n1,d,x',m,d',rfl,hX,g1⟩;rw[<- HP.out.2] at g1;have hm:=hid (show m=C.2.length from hX.E.sn);dsimp only at hX;obtain⟨W2,hW2⟩:∃ W2,W2=w1.alloc (.cells #[.slice x n1 d,.slice x' m d'] 83):=⟨_,rfl⟩;have b2:Below w1.heap.size w1 W2:=by rw[hW2]; go_grown
 have N0:NamI W2 (.slice none 0 0) C.2 0 W2:=⟨World.ownsRow_nil _ _ _ _,Below.refl _ _⟩;have G2:=HP.out.1.trans ((g1.trans (b2.mono g1.size)).mono HP.out.1.size);have k1:Own W2 w1.heap.size 83 [.slice x n1 d,.slice x' m d']:=by rw[hW2]; exact Own.made w1 _ _
 have HX:=hid (And.intro (hX.E.below b2) (And.intro N0 (And.intro G2 k1)));clear G2 hX g1 H1 N0 k1 b2;go_upto_region 2 with fail
 rw[<- hW2];clear hW2;go_wp2_with fail
 go_loopw [6,7] (fun v i wr=>∃ (k:Nat) (a6:Option Addr) (n6 c6:Nat),k<=m∧v=.slice a6 n6 c6∧i=.int .i64 k∧Hid (n6=k∧NamI W2 (.slice a6 n6 c6) C.2 k wr)) (fun _ i _=>m-(RowKit.intOf i).toNat)
 case atStart=>exact⟨0,none,0,0,Nat.zero_le _,rfl,rfl,rfl,HX.out.2.1⟩
 case round=>
  obtain⟨k,a6,n6,c6,hk,rfl,rfl,HI⟩:=hrel;have c1:=(HX.out.2.2.2.below' HI.out.2.below).cell (i:=1) rfl
  by_cases hlt:k<m
  ·have hlt':(k:Int)<m:=by omega
   obtain⟨b,o,rfl,hb,x0,x1,x2,x3⟩:=(HX.out.1.below HI.out.2.below).c k hlt;have hk10:k<C.2.length:=by have:=hm.out; omega
   obtain⟨y,hy⟩:∃ y,en C.2 k=y:=⟨_,rfl⟩;rw[hy] at x0 x1 x2 x3;have HY:=hid hy;clear hy;have J:=hid (HI.out.2.to (show Below wr.heap.size wr (wr.alloc (.cells #[.string y.s] 9)) by go_grown))
   have HN:=hid HI.out.1;clear HI HX;go_wp2_with (at_builtin; (refine Xu _ rfl (.tmp 20) (.tmp 27) 31 9 (.string ⟨#[]⟩) 16 rfl Tryz.underlying31 UP rfl W2.heap.size (.slice a6 n6 c6) k (nam C.2 k) rfl J.out.own ⟨wr.heap.size,0,none⟩ (.string y.s) rfl ?_ rfl ?_ ?_ ?_ ?_; (simp[go_sem]); (unfold maxLen; omega); (omega); (exact J.out.below.size); intro g5 m5 cap5 w5 hm5 hg5 hown5 hgrow5; (have K5:=hid (And.intro hm5.out (J.out.append (by rw[HY.out]; exact hown5) hm5.out hk10 hgrow5))); clear hown5 hgrow5 hm5))
   go_roundw
   case rel=>exact⟨k+1,_,m5,cap5,by omega,rfl,by go_num,K5.out.1,K5.out.2⟩
   case measure=>simp[RowKit.intOf]; omega
  ·have hlt':¬ (k:Int)<m:=by omega
   obtain rfl:k=m:=by omega
   have K:=hid (HI.out.2.out (T:=T) hm.out HI.out.1 HL HX.out.2.2.1);clear HI;go_wp2
   go_ret2
   exact K.out
end Go.Proofs.YtdnacpbgodooaaaGreatDoor
