import Derived.Test.YtdnacpbgodooaaaGreatDoorCatNB
import Derived.Test.YtdnacpbgodooaaaGreatDoorArrB
import Derived.Test.YtdnacpbgodooaaaGreatDoorRefT
set_option maxHeartbeats 1600000
set_option maxRecDepth 4000
namespace Go.Proofs.YtdnacpbgodooaaaGreatDoor
open Go.RowKit Go.Lib
theorem U9 (m:Nat):secs ((m:Int)).toNat=secs m:=by rw[show ((m:Int)).toNat=m by omega]
theorem Yt (a:Option Addr) (n c:Nat) (A:Ar) (x m:Int) (w:World) (H:Z5 w a n A):
  Calls Tryz.prog 138 #[.agg #[.slice a n c],.int .i64 x,.int .i64 m] w fun e w'=>e=.returned (.int .i64 (stChk A x m))∧Below w.heap.size w w':=by
 obtain⟨W,hW⟩:∃ W,W=w.alloc (.cells #[.slice a n c] 26):=⟨_,rfl⟩;have hB:Below w.heap.size w W:=by rw[hW]; go_grown
 have hz:W.heap.size=w.heap.size+1:=by rw[hW]; simp
 have c0:W.cell? ⟨w.heap.size,0,none⟩=some (.slice a n c):=by rw[hW]; simp
 have C1:=Xt a n c A W (H.below hB);rw[hW] at C1;unfold stChk;cases hm:Z2 A with
 | false=>
  rw[XE A hm] at C1;have H1:=hid C1;have HP:=hid (And.intro hB hW);clear C1 hB hz c0 hW H hm;go_enter Tryz.func138,Tryz.ntmps138
  go_wp2_with fail
  refine H1.out.mono ?_
  rintro _ w1 ⟨rfl,g1⟩;rw[<- HP.out.2] at g1;go_wp2
  go_ret
  exact⟨rfl,bel3 HP.out.1 g1⟩
 | true=>
  rw[XQ A hm] at C1;rw[if_pos rfl];have hmm:=(arMay_iff A).1 hm;have hN:many A<=64:=hmm.2.2.2.1;have H1:=hid C1
  by_cases m0:m<0
  ·rw[if_neg (by omega)]
   have HP:=hid (And.intro hB hW);clear C1 hB hz c0 hW H hm hmm;go_enter Tryz.func138,Tryz.ntmps138
   go_wp2_with fail
   refine H1.out.mono ?_
   rintro _ w1 ⟨rfl,g1⟩;rw[<- HP.out.2] at g1;go_wp2
   go_ret
   exact⟨rfl,bel3 HP.out.1 g1⟩
  ·by_cases m1:1536<m
   ·rw[if_neg (by omega)]
    have HP:=hid (And.intro hB hW);clear C1 hB hz c0 hW H hm hmm;go_enter Tryz.func138,Tryz.ntmps138
    go_wp2_with fail
    refine H1.out.mono ?_
    rintro _ w1 ⟨rfl,g1⟩;rw[<- HP.out.2] at g1;go_wp2
    go_ret
    exact⟨rfl,bel3 HP.out.1 g1⟩
   ·rw[if_pos (by omega)]
    obtain⟨M,rfl⟩:∃ M:Nat,m=M:=⟨m.toNat,by omega⟩
    rw[U9];obtain⟨rfl,b,o,h,rfl,HX⟩:=Z8 H hm;have hp:many A=(h 0).p:=(HX.dv 0 (by omega)).sn.symm
    rw[hp] at hN;rw[hp];have CS:=hid (fun wx=>Wn M wx (by omega))
    have hS:=WM M (by omega)
    generalize secs M=K at CS hS;have HP:=hid (And.intro hB (And.intro hW (And.intro hz (And.intro c0 (And.intro (HX.below hB).lt ((HX.below hB).three.1.1))))));clear C1 hB hz c0 hW H hm hmm HX hp;generalize (h 0).p=N at hN HP;generalize (h 0).x=xx at HP;generalize (h 0).c=cc at HP;obtain⟨T,hT⟩:∃ T:Int,T=if 0<=x∧x+(K:Int)<=N then 0 else 2:=⟨_,rfl⟩
    rw[<- hT];have HT:=hid hT;clear hT;go_enter Tryz.func138,Tryz.ntmps138
    go_wp2_with fail
    refine H1.out.mono ?_
    rintro _ w1 ⟨rfl,g1⟩;rw[<- HP.out.2.1] at g1;have d0:=(g1.cell (p:=⟨w.heap.size,0,none⟩) (by show w.heap.size<W.heap.size; rw[HP.out.2.2.1]; omega)).trans HP.out.2.2.2.1
    have t0:=(g1.cell (p:=⟨b,o,none⟩) HP.out.2.2.2.2.1).trans HP.out.2.2.2.2.2;have G1:=hid g1;clear g1 H1;go_upto_region 6 with fail
    go_cut [8] (fun s8 wx=>s8=.int .i64 ((N:Int)-K)∧Below W.heap.size W wx)
    case first=>
     go_quiet ((go_at_call 96; exact Calls.quiet_of_same (CS.out _)))
     all_goals (go_wp2_with fail; go_meet)
     all_goals exact⟨by go_num,below_drewN G1.out _⟩
    case rest=>
     obtain⟨rfl,hB⟩:=hcut;have G2:=hid hB;clear hB G1 d0 t0
     by_cases x0:x<0
     ·have HF:Hid (T=2):=by show _=_; rw[HT.out,if_neg (by omega)]
      go_wp2
      go_ret
      exact⟨by rw[HF.out] <;> rfl,bel3 HP.out.1 G2.out⟩
     ·by_cases x1:(N:Int)-K<x
      ·have HF:Hid (T=2):=by show _=_; rw[HT.out,if_neg (by omega)]
       go_wp2
       go_ret
       exact⟨by rw[HF.out] <;> rfl,bel3 HP.out.1 G2.out⟩
      ·have HF:Hid (T=0):=by show _=_; rw[HT.out,if_pos (by omega)]
       go_wp2
       go_ret
       exact⟨by rw[HF.out] <;> rfl,bel3 HP.out.1 G2.out⟩
theorem Ys (a:Option Addr) (n c:Nat) (A:Ar) (x m:Int) (w:World) (H:Z5 w a n A):
  Calls Tryz.prog 127 #[.agg #[.slice a n c],.int .i64 x,.int .i64 m] w fun e w'=>e=.returned (.int .i64 (stChk A x m))∧Below w.heap.size w w':=by
 obtain⟨W,hW⟩:∃ W,W=w.alloc (.cells #[.slice a n c] 26):=⟨_,rfl⟩;have hB:Below w.heap.size w W:=by rw[hW]; go_grown
 have hz:W.heap.size=w.heap.size+1:=by rw[hW]; simp
 have c0:W.cell? ⟨w.heap.size,0,none⟩=some (.slice a n c):=by rw[hW]; simp
 have C1:=Xz a n c A W (H.below hB);rw[hW] at C1;unfold stChk;cases hm:Z2 A with
 | false=>
  rw[hm] at C1;have H1:=hid C1;have HP:=hid (And.intro hB hW);clear C1 hB hz c0 hW H hm;go_enter Tryz.func127,Tryz.ntmps127
  go_wp2_with fail
  refine H1.out.mono ?_
  rintro _ w1 ⟨rfl,g1⟩;rw[<- HP.out.2] at g1;go_wp2
  go_ret
  exact⟨rfl,bel3 HP.out.1 g1⟩
 | true=>
  rw[hm] at C1;rw[if_pos rfl];have hmm:=(arMay_iff A).1 hm;have hN:many A<=64:=hmm.2.2.2.1;have H1:=hid C1;have C2:=hid (fun wx=>Zm m 0 1536 wx)
  by_cases m0:0<=m∧m<=1536
  ·rw[if_pos m0]
   rw[decide_eq_true m0] at C2;obtain⟨M,rfl⟩:∃ M:Nat,m=M:=⟨m.toNat,by omega⟩
   rw[U9];obtain⟨rfl,b,o,h,rfl,HX⟩:=Z8 H hm;have hp:many A=(h 0).p:=(HX.dv 0 (by omega)).sn.symm
   rw[hp] at hN;rw[hp];have CS:=hid (fun wx=>ZI M wx (by omega))
   have hS:=WM M (by omega)
   generalize secs M=K at CS hS;have HP:=hid (And.intro hB (And.intro hW (And.intro hz (And.intro c0 (And.intro (HX.below hB).lt ((HX.below hB).three.1.1))))));clear C1 hB hz c0 hW H hm hmm HX hp m0;generalize (h 0).p=N at hN HP;generalize (h 0).x=xx at HP;generalize (h 0).c=cc at HP;have C3:=hid (fun wx=>Zm x 0 N wx)
   obtain⟨T,hT⟩:∃ T:Int,T=if 0<=x∧x+(K:Int)<=N then 0 else 2:=⟨_,rfl⟩
   rw[<- hT];have HT:=hid hT;clear hT
   by_cases x0:0<=x∧x<=N
   ·rw[decide_eq_true x0] at C3
    by_cases x1:(N:Int)<x+K
    ·have HF:Hid (T=2):=by show _=_; rw[HT.out,if_neg (by omega)]
     go_enter Tryz.func127,Tryz.ntmps127
     go_wp2_with fail
     refine H1.out.mono ?_
     rintro _ w1 ⟨rfl,g1⟩;rw[<- HP.out.2.1] at g1;have d0:=(g1.cell (p:=⟨w.heap.size,0,none⟩) (by show w.heap.size<W.heap.size; rw[HP.out.2.2.1]; omega)).trans HP.out.2.2.2.1
     have t0:=(g1.cell (p:=⟨b,o,none⟩) HP.out.2.2.2.2.1).trans HP.out.2.2.2.2.2;have G1:=hid g1;clear g1 H1;go_wp2_with (first | (go_at_call_of 28 (Value.int IntKind.i64 M); refine (C2.out _).mono ?_; rintro _ w9 ⟨rfl,h9⟩; (have h8:=h9.symm); subst h8) | (go_at_call_of 28 (Value.int IntKind.i64 x); refine (C3.out _).mono ?_; rintro _ w9 ⟨rfl,h9⟩; (have h8:=h9.symm); subst h8) | (go_at_call 66; refine (CS.out _).mono ?_; rintro _ w9 ⟨rfl,h9⟩; (have h8:=h9.symm); subst h8))
     go_ret
     exact⟨by rw[HF.out] <;> rfl,bel3 HP.out.1 G1.out⟩
    ·have HF:Hid (T=0):=by show _=_; rw[HT.out,if_pos (by omega)]
     go_enter Tryz.func127,Tryz.ntmps127
     go_wp2_with fail
     refine H1.out.mono ?_
     rintro _ w1 ⟨rfl,g1⟩;rw[<- HP.out.2.1] at g1;have d0:=(g1.cell (p:=⟨w.heap.size,0,none⟩) (by show w.heap.size<W.heap.size; rw[HP.out.2.2.1]; omega)).trans HP.out.2.2.2.1
     have t0:=(g1.cell (p:=⟨b,o,none⟩) HP.out.2.2.2.2.1).trans HP.out.2.2.2.2.2;have G1:=hid g1;clear g1 H1;go_wp2_with (first | (go_at_call_of 28 (Value.int IntKind.i64 M); refine (C2.out _).mono ?_; rintro _ w9 ⟨rfl,h9⟩; (have h8:=h9.symm); subst h8) | (go_at_call_of 28 (Value.int IntKind.i64 x); refine (C3.out _).mono ?_; rintro _ w9 ⟨rfl,h9⟩; (have h8:=h9.symm); subst h8) | (go_at_call 66; refine (CS.out _).mono ?_; rintro _ w9 ⟨rfl,h9⟩; (have h8:=h9.symm); subst h8))
     go_ret
     exact⟨by rw[HF.out] <;> rfl,bel3 HP.out.1 G1.out⟩
   ·rw[decide_eq_false x0] at C3
    have HF:Hid (T=2):=by show _=_; rw[HT.out,if_neg (by omega)]
    clear x0;go_enter Tryz.func127,Tryz.ntmps127
    go_wp2_with fail
    refine H1.out.mono ?_
    rintro _ w1 ⟨rfl,g1⟩;rw[<- HP.out.2.1] at g1;have d0:=(g1.cell (p:=⟨w.heap.size,0,none⟩) (by show w.heap.size<W.heap.size; rw[HP.out.2.2.1]; omega)).trans HP.out.2.2.2.1
    have t0:=(g1.cell (p:=⟨b,o,none⟩) HP.out.2.2.2.2.1).trans HP.out.2.2.2.2.2;have G1:=hid g1;clear g1 H1;go_wp2_with (first | (go_at_call_of 28 (Value.int IntKind.i64 M); refine (C2.out _).mono ?_; rintro _ w9 ⟨rfl,h9⟩; (have h8:=h9.symm); subst h8) | (go_at_call_of 28 (Value.int IntKind.i64 x); refine (C3.out _).mono ?_; rintro _ w9 ⟨rfl,h9⟩; (have h8:=h9.symm); subst h8))
    go_ret
    exact⟨by rw[HF.out] <;> rfl,bel3 HP.out.1 G1.out⟩
  ·rw[if_neg m0]
   rw[decide_eq_false m0] at C2;have HP:=hid (And.intro hB hW);clear C1 hB hz c0 hW H hm hmm m0;go_enter Tryz.func127,Tryz.ntmps127
   go_wp2_with fail
   refine H1.out.mono ?_
   rintro _ w1 ⟨rfl,g1⟩;rw[<- HP.out.2] at g1;go_wp2_with (go_at_call 28; refine (C2.out _).mono ?_; rintro _ w9 ⟨rfl,h9⟩; (have h8:=h9.symm); subst h8)
   go_ret
   exact⟨rfl,bel3 HP.out.1 g1⟩
end Go.Proofs.YtdnacpbgodooaaaGreatDoor
namespace Go.Proofs.YtdnacpbgodooaaaGreatDoor
open Go.RowKit Go.Lib
structure StI (w:World) (pr pc:Nat) (A:Ar) (W:World):Prop where
 rc:W.cell? ⟨pr,0,none⟩=some (.slice none 0 0)
 rf:W.frozen? ⟨pr,0,none⟩=false
 ab:∃ a n c,W.cell? ⟨pc,0,none⟩=some (.slice a n c)∧((n=0∧A=[]∧a=none)∨∃ b h,a=some ⟨b,0,none⟩∧w.heap.size<=b∧pr≠b∧pc≠b∧Z4 W b 0 n h A)
 af:W.frozen? ⟨pc,0,none⟩=false
 ge:w.heap.size<=pr∧w.heap.size<=pc
 ne:pr≠pc
 lt:pr<W.heap.size∧pc<W.heap.size
 below:Below w.heap.size w W
section
variable {w W W':World} {pr pc:Nat} {A A':Ar}
theorem StI.to (H:StI w pr pc A W) (g:Below W.heap.size W W'):StI w pr pc A W':=by
 obtain⟨a,n,c,h1,h2⟩:=H.ab;refine⟨(g.cell (p:=⟨pr,0,none⟩) H.lt.1).trans H.rc,(g.frozen (p:=⟨pr,0,none⟩) H.lt.1).trans H.rf,⟨a,n,c,(g.cell (p:=⟨pc,0,none⟩) H.lt.2).trans h1,?_⟩,
  (g.frozen (p:=⟨pc,0,none⟩) H.lt.2).trans H.af,H.ge,H.ne,⟨Nat.lt_of_lt_of_le H.lt.1 g.size,Nat.lt_of_lt_of_le H.lt.2 g.size⟩,bel3 H.below g⟩
 rcases h2 with h2 | ⟨b,h,e,k1,k2,k3,k4⟩
 ·exact .inl h2
 ·exact .inr ⟨b,h,e,k1,k2,k3,k4.below g⟩
theorem StI.drew (H:StI w pr pc A W):StI w pr pc A W.drew:=H.to ((Below.refl _ W).drew)
theorem StI.arr (H:StI w pr pc A W):∃ a n c,W.cell? ⟨pc,0,none⟩=some (.slice a n c)∧Z5 W a n A:=by
 obtain⟨a,n,c,h1,h2⟩:=H.ab;refine⟨a,n,c,h1,?_⟩
 rcases h2 with ⟨e1,e2,_⟩ | ⟨b,h,e,_,_,_,k4⟩
 ·exact .inl ⟨e1,e2⟩
 ·exact .inr ⟨b,0,h,e,k4.arr⟩
theorem StI.set (H:StI w pr pc A W) {a:Option Addr} {n c B:Nat} (h1:pr<B) (h2:pc<B) (hX:(n=0∧A'=[]∧a=none)∨∃ b h,a=some ⟨b,0,none⟩∧B<=b∧Z4 W b 0 n h A'):
  StI w pr pc A' (W.setCell ⟨pc,0,none⟩ (.slice a n c)):=by
 obtain⟨a0,n0,c0,k1,_⟩:=H.ab;have ge:=H.ge;refine⟨?_,?_,⟨a,n,c,World.cell?_setCell_same _ _ _ k1,?_⟩,?_,H.ge,H.ne,?_,H.below.setCell (p:=⟨pc,0,none⟩) H.ge.2 _⟩
 ·rw[World.cell?_setCell_other _ _ _ _ (fun e=>H.ne (congrArg Addr.block e).symm)]; exact H.rc
 ·rw[World.frozen?_setCell]; exact H.rf
 ·rcases hX with hX | ⟨b,h,e,k,hf⟩
  ·exact .inl hX
  ·exact .inr ⟨b,h,e,by omega,by omega,by omega,hf.box (by omega) k1 _⟩
 ·rw[World.frozen?_setCell]; exact H.af
 ·have:=H.lt; simpa[World.setCell] using this
theorem StI.out (H:StI w pr pc A W):∃ a n c,W.cell? ⟨pc,0,none⟩=some (.slice a n c)∧OutA w (A,0) (.returned (.tuple #[.agg #[.slice a n c],.int .i64 0])) (W.setCell ⟨pr,0,none⟩ (.slice a n c)):=by
 obtain⟨a,n,c,k1,k2⟩:=H.ab;refine⟨a,n,c,k1,⟨a,n,c,rfl,?_⟩,H.below.setCell (p:=⟨pr,0,none⟩) H.ge.1 _⟩
 rcases k2 with k2 | ⟨b,h,e,k3,k4,_,hf⟩
 ·exact .inl k2
 ·exact .inr ⟨b,h,e,k3,hf.box k4 H.rc _⟩
end
theorem Jm {w W w2:World} {pr b cc:Nat} {h:Nat->Hd} {A:Ar} (hB:Below w.heap.size w W) (hp:w.heap.size<=pr) (hlt:pr<W.heap.size) (rc:W.cell? ⟨pr,0,none⟩=some (.slice none 0 0)) (rf:W.frozen? ⟨pr,0,none⟩=false) (g:Below W.heap.size W w2) (hb:W.heap.size<=b) (hf:Z4 w2 b 0 3 h A):
  StI w pr w2.heap.size A (w2.alloc (.cells #[.slice (some ⟨b,0,none⟩) 3 cc] 26)):=by
 have ga:Below w2.heap.size w2 (w2.alloc (.cells #[.slice (some ⟨b,0,none⟩) 3 cc] 26)):=(Below.refl _ w2).alloc (Nat.le_refl _) _;have gg:Below W.heap.size W (w2.alloc (.cells #[.slice (some ⟨b,0,none⟩) 3 cc] 26)):=bel3 g ga;have l2:=hf.arr.lt
 have:=g.size
 have:=hB.size
 have:=ga.size
 refine⟨(gg.cell (p:=⟨pr,0,none⟩) hlt).trans rc,(gg.frozen (p:=⟨pr,0,none⟩) hlt).trans rf,⟨_,3,cc,by simp,.inr ⟨b,h,rfl,by omega,by omega,by omega,hf.below ga⟩⟩,by simp,⟨hp,by omega⟩,by omega,⟨by omega,by simp⟩,bel3 hB gg⟩
theorem Z2O (a:Option Addr) (n c:Nat) (x:Int) (s:ByteArray) (A:Ar) (w:World) (H:Z5 w a n A) (ht:stChk A x s.size≠0):
  Calls Tryz.prog 97 #[.agg #[.slice a n c],.int .i64 x,.string s] w (OutA w ([],stChk A x s.size)):=by
 obtain⟨W,hW⟩:∃ W,W=(w.alloc (.cells #[.slice a n c] 26)).alloc (.cells #[.slice none 0 0] 26):=⟨_,rfl⟩;have hB:Below w.heap.size w W:=by rw[hW]; go_grown
 have hz:W.heap.size=w.heap.size+2:=by rw[hW]; simp
 have rc:W.cell? ⟨w.heap.size+1,0,none⟩=some (.slice none 0 0):=by rw[hW]; simp[go_sem]
 have rf:W.frozen? ⟨w.heap.size+1,0,none⟩=false:=by rw[hW]; simp[go_sem]
 have HT:=hid (Yt a n c A x s.size W (H.below hB));have HP:=hid (And.intro hB (And.intro hz (And.intro rc rf)));have HK:=hid (fun x w' (g:Below w.heap.size w w')=>Zp (x:=x) g)
 generalize stChk A x s.size=t at HT ht;have ht':(t != 0)=true:=bne_iff_ne.2 ht;rw[hW] at HT;have HE:=hid hW;clear ht hB hz rc rf H hW;go_enter Tryz.func97,Tryz.ntmps97
 go_wp2_with fail
 refine HT.out.mono ?_
 rintro _ w1 ⟨rfl,g1⟩;rw[<- HE.out] at g1;have r1:=(g1.cell (p:=⟨w.heap.size+1,0,none⟩) (by show w.heap.size+1<W.heap.size; rw[HP.out.2.1]; omega)).trans HP.out.2.2.1
 have r2:=(g1.frozen (p:=⟨w.heap.size+1,0,none⟩) (by show w.heap.size+1<W.heap.size; rw[HP.out.2.1]; omega)).trans HP.out.2.2.2
 have y0:=World.cell?_setCell_same w1 ⟨w.heap.size+1,0,none⟩ (.slice none 0 0) r1
 have G1:=hid ((bel3 HP.out.1 g1).setCell (p:=⟨w.heap.size+1,0,none⟩) (by show w.heap.size<=w.heap.size+1; omega) (.slice none 0 0))
 clear g1;go_wp2
 refine bodyPost_ret (v:=.tuple #[.agg #[.slice none 0 0],.int .i64 t]) (by simp[results,Tryz.results97,go_sem,y0]) rfl ?_
 exact HK.out _ _ G1.out
theorem Z4P (S:List UInt8) (k m:Nat) (t:ByteArray) (h:t.data.toList=S.drop (24*k)) (h0:t.size≠0) (hm:m=min t.size 24):
  (t.extract 0 m).data.toList=chunk S k∧(t.extract m t.size).data.toList=S.drop (24*(k+1))∧k<secs S.length:=by
 have hl:t.size=S.length-24*k:=by rw[<- ba_len,h,List.length_drop]
 refine⟨?_,?_,?_⟩
 ·rw[ext_list,h,cut,chunk,List.drop_zero]
  by_cases e:t.size<=24
  ·rw[hm,Nat.min_eq_left e,List.take_of_length_le (by rw[List.length_drop]; omega),List.take_of_length_le (by rw[List.length_drop]; omega)]
  ·rw[hm,Nat.min_eq_right (by omega)]
 ·rw[ext_list,h,cut,List.take_of_length_le (by rw[List.length_drop]; omega),List.drop_drop]
  by_cases e:t.size<=24
  ·rw[hm,Nat.min_eq_left e,List.drop_eq_nil_of_le (by omega),List.drop_eq_nil_of_le (by omega)]
  ·rw[hm,Nat.min_eq_right (by omega),show 24*k+24=24*(k+1) by omega]
 ·unfold secs; omega
theorem Z6y (S:List UInt8) (k:Nat) (t:ByteArray) (h:t.data.toList=S.drop (24*k)) (h0:t.size=0) (hk:k<=secs S.length):k=secs S.length:=by
 have hl:t.size=S.length-24*k:=by rw[<- ba_len,h,List.length_drop]
 have:=Z47 S.length k (by omega)
 omega
theorem Z2N (b o c:Nat) (h:Nat->Hd) (x:Nat) (s:ByteArray) (A:Ar) (w:World) (H:Arr w b o 3 h A) (ht:stChk A x s.size=0):
  Calls Tryz.prog 97 #[.agg #[.slice (some ⟨b,o,none⟩) 3 c],.int .i64 x,.string s] w (OutA w (stN A x s.data.toList (secs s.size),0)):=by
 obtain⟨hm,hs,hx0,hx1⟩:=Xa A x s.size ht;have hmm:=(arMay_iff A).1 hm;obtain⟨W,hW⟩:∃ W,W=(w.alloc (.cells #[.slice (some ⟨b,o,none⟩) 3 c] 26)).alloc (.cells #[.slice none 0 0] 26):=⟨_,rfl⟩;have hB:Below w.heap.size w W:=by rw[hW]; go_grown
 have hz:W.heap.size=w.heap.size+2:=by rw[hW]; simp
 have rc:W.cell? ⟨w.heap.size+1,0,none⟩=some (.slice none 0 0):=by rw[hW]; simp[go_sem]
 have rf:W.frozen? ⟨w.heap.size+1,0,none⟩=false:=by rw[hW]; simp[go_sem]
 have c0:W.cell? ⟨w.heap.size,0,none⟩=some (.slice (some ⟨b,o,none⟩) 3 c):=by rw[hW]; simp[go_sem]
 have HA:∀ wx,Below W.heap.size W wx->Z5 wx (some ⟨b,o,none⟩) 3 A:=fun wx g=>.inr ⟨b,o,h,rfl,(H.below hB).below g⟩
 have HT:=hid (Yt (some ⟨b,o,none⟩) 3 c A x s.size W (HA W (Below.refl _ _)));rw[ht,hW] at HT;have CC:=hid (fun wx (g:Below W.heap.size W wx)=>XI (some ⟨b,o,none⟩) 3 c A wx (HA wx g) (ZN A hm))
 have HP:=hid (And.intro hB (And.intro hz (And.intro c0 (And.intro rc rf))));have HE:=hid hW;have hS:=WM s.size (by omega)
 have HB:=hid (show s.size<=1536 by omega)
 have hx64:x<=64:=by omega
 have hl:=ba_len s;obtain⟨S,hSS⟩:∃ S,S=s.data.toList:=⟨_,rfl⟩;rw[<- hSS];rw[<- hSS] at hl;have HN:Hid (∀ k,stN A x S (k+1)=(arWrite (stN A x S k) ((x+k:Nat):Int) (chunk S k)).1):=fun k=>rfl
 have H0:Hid (stN A x S 0=A):=rfl;have HS:=hid (And.intro hSS hl);clear hB hz rc rf c0 H hW HA hm hmm ht hs hx0 hx1 hl hSS;have hKK:secs s.size=secs S.length:=by rw[HS.out.2]
 generalize secs s.size=K at hS hKK;have HK:=hid hKK;clear hKK;go_enter Tryz.func97,Tryz.ntmps97
 go_wp2_with fail
 refine HT.out.mono ?_
 rintro _ w1 ⟨rfl,g1⟩;rw[<- HE.out] at g1;have d0:=(g1.cell (p:=⟨w.heap.size,0,none⟩) (by show w.heap.size<W.heap.size; rw[HP.out.2.1]; omega)).trans HP.out.2.2.1
 have G1:=hid g1;clear g1 HT HE;go_wp2_with fail
 refine (CC.out _ G1.out).mono ?_
 rintro _ w3 ⟨a3,c3,rfl,h3,g3⟩
 rcases h3 with ⟨h30,_⟩ | ⟨b3,hd3,rfl,hb3,hf3⟩
 ·omega
 have hst:=Jm (pr:=w.heap.size+1) (cc:=c3) HP.out.1 (by omega) (by rw[HP.out.2.1]; omega) HP.out.2.2.2.1 HP.out.2.2.2.2 (bel3 G1.out g3) (Nat.le_trans G1.out.size hb3) hf3
 have S3:=hid hst;clear hst hf3 hb3 g3 d0 G1 CC;go_upto_region 5 with fail
 obtain⟨W3,hW3⟩:∃ W3,W3=w3.alloc (.cells #[.slice (some ⟨b3,0,none⟩) 3 c3] 26):=⟨_,rfl⟩;rw[<- hW3] at S3 ⊢;clear hW3;generalize w3.heap.size=pc at S3 ⊢;go_wp2_with fail
 go_loopw [2,10] (fun v i wr=>∃ (k:Nat) (t:ByteArray),k<=K∧v=.string t∧i=.int .i64 ((x+k:Nat):Int)∧Hid (t.data.toList=S.drop (24*k)∧StI w (w.heap.size+1) pc (stN A x S k) wr)) (fun _ i _=>x+K-(intOf i).toNat)
 case atStart=>exact⟨0,s,Nat.zero_le _,rfl,rfl,by show _=_; rw[<- HS.out.1]; rfl,S3.out⟩
 case round=>
  obtain⟨k,t,hk,rfl,rfl,HI⟩:=hrel;clear S3
  by_cases e:t.size=0
  ·have HE:=hid (Z6y S k t HI.out.1 e (by rw[<- HK.out]; exact hk))
   obtain rfl:t=⟨#[]⟩:=ByteArray.ext (Array.eq_empty_of_size_eq_zero e);obtain rfl:k=K:=HE.out.trans HK.out.symm;have rc:=HI.out.2.rc;have rf:=HI.out.2.rf;obtain⟨aa,nn,cc,k1,KK⟩:=HI.out.2.out;have HO:=hid KK;have y0:=World.cell?_setCell_same wr ⟨w.heap.size+1,0,none⟩ (.slice aa nn cc) rc
   clear KK e hk;go_wp2
   refine bodyPost_ret (v:=.tuple #[.agg #[.slice aa nn cc],.int .i64 0]) (by simp[results,Tryz.results97,go_sem,y0]) rfl ?_
   exact HO.out
  ·have e':t.toList.isEmpty=false:=by
    rw[ByteArray.toList_eq,List.isEmpty_eq_false_iff];intro hh;exact e (by rw[<- ba_len,hh]; rfl)
   obtain⟨m,mn,hm0,hm1,hm2⟩:∃ m:Nat,min (t.size:Int) 24=m∧m=min t.size 24∧m<=24∧m<=t.size:=⟨min t.size 24,by omega,rfl,by omega,by omega⟩
   obtain⟨l1,l2,l3⟩:=Z4P S k m t HI.out.1 e hm0;have htb:t.size<=1536:=by rw[<- ba_len,HI.out.1,List.length_drop,HS.out.2]; have:=HB.out; omega
   obtain⟨aa,nn,cc,k1,hA⟩:=HI.out.2.arr;have CW:=hid (fun wx (g:Below wr.heap.size wr wx)=>Z1x aa nn cc ((x+k:Nat):Int) (t.extract 0 m) (stN A x S k) wx (hA.below g))
   rw[l1] at CW;have HX:=hid (And.intro l2 (show k<K by rw[HK.out]; exact l3))
   have HV:=hid (HN.out k);have S4:=hid HI.out.2;clear hm0 l1 l2 l3 hA HI e;generalize arWrite (stN A x S k) ((x+k:Nat):Int) (chunk S k)=r at CW HV;go_upto_region 9 with fail
   clear e';go_cut [] (fun wx=>StI w (w.heap.size+1) pc r.1 wx)
   case first=>
    go_region_with (go_at_call 151; refine (CW.out _ ((Below.refl _ wr).drew)).mono ?_; rintro _ w9 ⟨⟨x9,n9,c9,rfl,hX⟩,g9⟩; (have S9:=S4.out.drew.to g9); (have S10:=hid (S9.set (c:=c9) S4.out.drew.lt.1 S4.out.drew.lt.2 hX)); (have j0:w9.cell? ⟨pc,0,none⟩=some (.slice aa nn cc):=(g9.cell (p:=⟨pc,0,none⟩) S4.out.drew.lt.2).trans k1); (have j1:=S9.af); clear S9 hX g9)
    all_goals (go_wp2_with fail; go_meet)
    all_goals exact S10.out
   case rest=>
    have S5:=hid hcut;clear hcut S4 CW k1;rw[<- HV.out] at S5;go_wp2
    go_roundw
    case rel=>exact⟨k+1,_,HX.out.2,rfl,by go_num,HX.out.1,S5.out⟩
    case measure=>simp[intOf]; have:=HX.out.2; omega
theorem Uu (a:Option Addr) (n c:Nat) (x:Int) (s:ByteArray) (A:Ar) (w:World) (H:Z5 w a n A):
  Calls Tryz.prog 97 #[.agg #[.slice a n c],.int .i64 x,.string s] w (OutA w (Zg A x s.data.toList)):=by
 unfold Zg;rw[ba_len]
 by_cases h:stChk A x s.size=0
 ·rw[if_pos h]
  obtain⟨hm,_,h0,_⟩:=Xa A x s.size h;obtain⟨x',rfl⟩:∃ x':Nat,x=x':=⟨x.toNat,by omega⟩
  obtain⟨rfl,b,o,hd,rfl,HX⟩:=Z8 H hm;exact Z2N b o c hd x' s A w HX h
 ·rw[if_neg h]
  exact Z2O a n c x s A w H h
end Go.Proofs.YtdnacpbgodooaaaGreatDoor
namespace Go.Proofs.YtdnacpbgodooaaaGreatDoor
open Go.RowKit Go.Lib
theorem Z5p (S:List UInt8) (k E:Nat) (h:E=min (24*k+24) S.length):cut S (24*k) E=chunk S k:=by
 unfold cut chunk;rw[List.drop_take]
 by_cases e:24*k+24<=S.length
 ·rw[h,Nat.min_eq_left e,show 24*k+24-24*k=24 by omega]
 ·rw[h,Nat.min_eq_right (by omega),List.take_of_length_le (by rw[List.length_drop]; omega),List.take_of_length_le (by rw[List.length_drop]; omega)]
theorem Jh (a:Option Addr) (n c:Nat) (x:Int) (s:ByteArray) (A:Ar) (w:World) (H:Z5 w a n A) (ht:stChk A x s.size≠0):
  Calls Tryz.prog 68 #[.agg #[.slice a n c],.int .i64 x,.string s] w (OutA w ([],stChk A x s.size)):=by
 obtain⟨W,hW⟩:∃ W,W=(w.alloc (.cells #[.slice a n c] 26)).alloc (.cells #[.slice none 0 0] 26):=⟨_,rfl⟩;have hB:Below w.heap.size w W:=by rw[hW]; go_grown
 have hz:W.heap.size=w.heap.size+2:=by rw[hW]; simp
 have rc:W.cell? ⟨w.heap.size+1,0,none⟩=some (.slice none 0 0):=by rw[hW]; simp[go_sem]
 have rf:W.frozen? ⟨w.heap.size+1,0,none⟩=false:=by rw[hW]; simp[go_sem]
 have HT:=hid (Ys a n c A x s.size W (H.below hB));have HP:=hid (And.intro hB (And.intro hz (And.intro rc rf)));have HK:=hid (fun x w' (g:Below w.heap.size w w')=>Zp (x:=x) g)
 generalize stChk A x s.size=t at HT ht;have ht':(t != 0)=true:=bne_iff_ne.2 ht;rw[hW] at HT;have HE:=hid hW;clear ht hB hz rc rf H hW;go_enter Tryz.func68,Tryz.ntmps68
 go_wp2_with fail
 refine HT.out.mono ?_
 rintro _ w1 ⟨rfl,g1⟩;rw[<- HE.out] at g1;have r1:=(g1.cell (p:=⟨w.heap.size+1,0,none⟩) (by show w.heap.size+1<W.heap.size; rw[HP.out.2.1]; omega)).trans HP.out.2.2.1
 have r2:=(g1.frozen (p:=⟨w.heap.size+1,0,none⟩) (by show w.heap.size+1<W.heap.size; rw[HP.out.2.1]; omega)).trans HP.out.2.2.2
 have y0:=World.cell?_setCell_same w1 ⟨w.heap.size+1,0,none⟩ (.slice none 0 0) r1
 have G1:=hid ((bel3 HP.out.1 g1).setCell (p:=⟨w.heap.size+1,0,none⟩) (by show w.heap.size<=w.heap.size+1; omega) (.slice none 0 0))
 clear g1;go_wp2
 refine bodyPost_ret (v:=.tuple #[.agg #[.slice none 0 0],.int .i64 t]) (by simp[results,Tryz.results68,go_sem,y0]) rfl ?_
 exact HK.out _ _ G1.out
theorem Jg (b o c:Nat) (h:Nat->Hd) (x:Nat) (s:ByteArray) (A:Ar) (w:World) (H:Arr w b o 3 h A) (ht:stChk A x s.size=0):
  Calls Tryz.prog 68 #[.agg #[.slice (some ⟨b,o,none⟩) 3 c],.int .i64 x,.string s] w (OutA w (stN A x s.data.toList (secs s.size),0)):=by
 obtain⟨hm,hs,hx0,hx1⟩:=Xa A x s.size ht;have hmm:=(arMay_iff A).1 hm;obtain⟨W,hW⟩:∃ W,W=(w.alloc (.cells #[.slice (some ⟨b,o,none⟩) 3 c] 26)).alloc (.cells #[.slice none 0 0] 26):=⟨_,rfl⟩;have hB:Below w.heap.size w W:=by rw[hW]; go_grown
 have hz:W.heap.size=w.heap.size+2:=by rw[hW]; simp
 have rc:W.cell? ⟨w.heap.size+1,0,none⟩=some (.slice none 0 0):=by rw[hW]; simp[go_sem]
 have rf:W.frozen? ⟨w.heap.size+1,0,none⟩=false:=by rw[hW]; simp[go_sem]
 have c0:W.cell? ⟨w.heap.size,0,none⟩=some (.slice (some ⟨b,o,none⟩) 3 c):=by rw[hW]; simp[go_sem]
 have HA:∀ wx,Below W.heap.size W wx->Z5 wx (some ⟨b,o,none⟩) 3 A:=fun wx g=>.inr ⟨b,o,h,rfl,(H.below hB).below g⟩
 have HT:=hid (Ys (some ⟨b,o,none⟩) 3 c A x s.size W (HA W (Below.refl _ _)));rw[ht,hW] at HT;have CC:=hid (fun wx (g:Below W.heap.size W wx)=>XR (some ⟨b,o,none⟩) 3 c A wx (HA wx g) (ZN A hm))
 have HP:=hid (And.intro hB (And.intro hz (And.intro c0 (And.intro rc rf))));have HE:=hid hW;have hS:=WM s.size (by omega)
 have hb:s.size<=1536:=by omega
 have hx64:x<=64:=by omega
 have hl:=ba_len s;obtain⟨S,hSS⟩:∃ S,S=s.data.toList:=⟨_,rfl⟩;rw[<- hSS];rw[<- hSS] at hl;have HN:Hid (∀ k,stN A x S (k+1)=(arWrite (stN A x S k) ((x+k:Nat):Int) (chunk S k)).1):=fun k=>rfl
 have H0:Hid (stN A x S 0=A):=rfl;have HS:=hid (And.intro hSS hl);clear hB hz rc rf c0 H hW HA hm hmm ht hs hx0 hx1 hl hSS;have hKK:secs s.size=secs S.length:=by rw[HS.out.2]
 have CS:=hid (fun wx=>ZI s.size wx (by omega))
 generalize secs s.size=K at hS hKK CS;have HK:=hid hKK;clear hKK;go_enter Tryz.func68,Tryz.ntmps68
 go_wp2_with fail
 refine HT.out.mono ?_
 rintro _ w1 ⟨rfl,g1⟩;rw[<- HE.out] at g1;have d0:=(g1.cell (p:=⟨w.heap.size,0,none⟩) (by show w.heap.size<W.heap.size; rw[HP.out.2.1]; omega)).trans HP.out.2.2.1
 have G1:=hid g1;clear g1 HT HE;go_wp2_with fail
 refine (CC.out _ G1.out).mono ?_
 rintro _ w3 ⟨a3,c3,rfl,h3,g3⟩
 rcases h3 with ⟨h30,_⟩ | ⟨b3,hd3,rfl,hb3,hf3⟩
 ·omega
 have hst:=Jm (pr:=w.heap.size+1) (cc:=c3) HP.out.1 (by omega) (by rw[HP.out.2.1]; omega) HP.out.2.2.2.1 HP.out.2.2.2.2 (bel3 G1.out g3) (Nat.le_trans G1.out.size hb3) hf3
 have S3:=hid hst;clear hst hf3 hb3 g3 d0 G1 CC;go_upto_region 5 with fail
 obtain⟨W3,hW3⟩:∃ W3,W3=w3.alloc (.cells #[.slice (some ⟨b3,0,none⟩) 3 c3] 26):=⟨_,rfl⟩;rw[<- hW3] at S3 ⊢;clear hW3;generalize w3.heap.size=pc at S3 ⊢;go_wp2_with fail
 go_loopw [10] (fun i wr=>∃ k:Nat,k<=K∧i=.int .i64 k∧Hid (StI w (w.heap.size+1) pc (stN A x S k) wr)) (fun i _=>K-(intOf i).toNat)
 case atStart=>exact⟨0,Nat.zero_le _,rfl,S3.out⟩
 case round=>
  obtain⟨k,hk,rfl,HI⟩:=hrel;clear S3
  by_cases hlt:k<K
  ·have hlt':(k:Int)<K:=by omega
   have h24:=Z0B S.length k (by rw[<- HK.out]; exact hlt)
   rw[HS.out.2] at h24;obtain⟨aa,nn,cc,k1,hA⟩:=HI.out.arr;obtain⟨E,e1,e2,e3⟩:∃ E:Nat,E=min (24*k+24) s.size∧24*k<=E∧E<=s.size:=⟨_,rfl,by omega,by omega⟩
   have hE:(s.extract (24*k) E).data.toList=chunk S k:=by rw[ext_list,<- HS.out.1,Z5p S k E (by rw[HS.out.2]; exact e1)]
   have CW:=hid (fun wx (g:Below wr.heap.size wr wx)=>QM aa nn cc ((x+k:Nat):Int) (s.extract (24*k) E) (stN A x S k) wx (hA.below g))
   rw[hE] at CW;have HV:=hid (HN.out k);have S4:=hid HI.out;generalize arWrite (stN A x S k) ((x+k:Nat):Int) (chunk S k)=r at CW HV;have u1:IntKind.i64.wrap ((x:Int)+k)=((x+k:Nat):Int):=by rw[IntWalk.i64_in _ (by omega)]; omega
   have u2:IntKind.i64.wrap (24*(k:Int))=((24*k:Nat):Int):=by rw[IntWalk.i64_in _ (by omega)]; omega
   have HE:=hid e1;clear hA HI hE e1;generalize x+k=z at CW u1
   go_upto_if 36 with (go_at_call 66; refine (CS.out _).mono ?_; rintro _ w9 ⟨rfl,h9⟩; (have h8:=h9.symm); subst h8)
   go_cut [11] (fun s11 wx=>s11=.int .i64 (E:Int)∧wx=wr)
   case first=>
    by_cases e:s.size<24*k+24
    ·have e':(s.size:Int)<24*(k:Int)+24:=by omega
     have HF:Hid ((s.size:Int)=E):=by show _=_; have:=HE.out; omega
     go_wp2_with fail
     go_meet
     exact⟨by rw[HF.out] <;> rfl,rfl⟩
    ·have e':¬ (s.size:Int)<24*(k:Int)+24:=by omega
     have HF:Hid ((24:Int)*k+24=E):=by show _=_; have:=HE.out; omega
     go_wp2_with fail
     go_meet
     exact⟨by rw[HF.out] <;> rfl,rfl⟩
   case rest=>
    obtain⟨rfl,rfl⟩:=hcut;generalize 24*k=y at CW u2 e2;go_upto_region 11 with fail
    go_region_with (go_at_call 128; refine (CW.out _ ((Below.refl _ _).drew)).mono ?_; rintro _ w9 ⟨⟨x9,n9,c9,rfl,hX⟩,g9⟩; (have S9:=S4.out.drew.to g9); (have S10:=hid (S9.set (c:=c9) S4.out.drew.lt.1 S4.out.drew.lt.2 hX)); (have j0:w9.cell? ⟨pc,0,none⟩=some (.slice aa nn cc):=(g9.cell (p:=⟨pc,0,none⟩) S4.out.drew.lt.2).trans k1); (have j1:=S9.af); clear S9 hX g9)
    all_goals rw[<- HV.out] at S10
    all_goals go_wp2
    all_goals go_roundw
    case rel=>exact⟨k+1,hlt,by go_num,S10.out⟩
    case measure=>simp[intOf]; omega
  ·have hlt':¬ (k:Int)<K:=by omega
   obtain rfl:k=K:=by omega
   have rc:=HI.out.rc;have rf:=HI.out.rf;obtain⟨aa,nn,cc,k1,KK⟩:=HI.out.out;have HO:=hid KK;have y0:=World.cell?_setCell_same wr ⟨w.heap.size+1,0,none⟩ (.slice aa nn cc) rc
   clear KK hk hlt HI;go_wp2_with (go_at_call 66; refine (CS.out _).mono ?_; rintro _ w9 ⟨rfl,h9⟩; (have h8:=h9.symm); subst h8)
   refine bodyPost_ret (v:=.tuple #[.agg #[.slice aa nn cc],.int .i64 0]) (by simp[results,Tryz.results68,go_sem,y0]) rfl ?_
   exact HO.out
theorem V6 (a:Option Addr) (n c:Nat) (x:Int) (s:ByteArray) (A:Ar) (w:World) (H:Z5 w a n A):
  Calls Tryz.prog 68 #[.agg #[.slice a n c],.int .i64 x,.string s] w (OutA w (Zg A x s.data.toList)):=by
 unfold Zg;rw[ba_len]
 by_cases h:stChk A x s.size=0
 ·rw[if_pos h]
  obtain⟨hm,_,h0,_⟩:=Xa A x s.size h;obtain⟨x',rfl⟩:∃ x':Nat,x=x':=⟨x.toNat,by omega⟩
  obtain⟨rfl,b,o,hd,rfl,HX⟩:=Z8 H hm;exact Jg b o c hd x' s A w HX h
 ·rw[if_neg h]
  exact Jh a n c x s A w H h
end Go.Proofs.YtdnacpbgodooaaaGreatDoor
