import Derived.Test.YtdnacpbgodooaaaGreatDoorArcAdds
import Derived.Test.YtdnacpbgodooaaaGreatDoorKeepF
set_option maxHeartbeats 6400000
set_option maxRecDepth 4000
namespace Go.Proofs.YtdnacpbgodooaaaGreatDoor
open Go.RowKit Go.Lib
theorem Z60 (F:List Fi) (k:Nat) (h:filN F k=0):sumF F k<=200*k:=by
 have q:∀ j,j<=k->sumF F j<=200*j:=by
  intro j
  induction j with
  | zero=>intro _; exact Nat.zero_le _
  | succ j ih=>
   intro hj;have h1:=ih (by omega)
   have h2:=(Vj F j (Z59 F k h j (by omega))).2.1
   rw[sumF]; omega
 exact q k (Nat.le_refl _)
theorem JD (a:Option Addr) (n c:Nat) (F:List Fi) (w:World) (H:ZV w a n F):
  Calls Tryz.prog 62 #[.slice a n c] w fun e w'=>e=.returned (.int .i64 (filChk F))∧Below w.heap.size w w':=by
 have hsn:=H.sn;have hnb:=H.nb;unfold maxLen at hnb;obtain⟨T,hT⟩:∃ T:Int,T=filChk F:=⟨_,rfl⟩;rw[<- hT];unfold filChk at hT;rw[<- hsn] at hT;have CI:=hid (fun wx=>Zm (n:Int) 1 10 wx)
 by_cases h1:1<=n∧n<=10
 ·rw[show decide ((1:Int)<=(n:Int)∧(n:Int)<=10)=true from decide_eq_true (by omega)] at CI
  rw[if_pos h1] at hT;have HT:=hid hT;have HH:=hid H;clear hT H hsn;go_enter Tryz.func62,Tryz.ntmps62
  go_wp2_with (go_at_call 28; refine (CI.out _).mono ?_; rintro _ w9 ⟨rfl,h9⟩; (have h8:=h9.symm); subst h8)
  go_loopw [3,4] (fun v i wr=>∃ k:Nat,k<=n∧v=.int .i64 (sumF F k)∧i=.int .i64 k∧Hid (filN F k=0)∧Hid (Below w.heap.size w wr)) (fun _ i _=>n-(RowKit.intOf i).toNat)
  case atStart=>exact⟨0,Nat.zero_le _,rfl,rfl,rfl,Below.refl _ _⟩
  case round=>
   obtain⟨k,hk,rfl,rfl,h0,G⟩:=hrel;have hs0:(0:Int)<=sumF F k:=by omega
   have hs1:=Z60 F k h0.out
   by_cases hlt:k<n
   ·have hlt':(k:Int)<n:=by omega
    obtain⟨b,o,rfl,hb,x0,x1⟩:=(HH.out.below G.out).c k hlt;obtain⟨n0,n1⟩:=HH.out.nm k hlt;have CN:=hid (fun wx=>UG (fi F k).s wx n0)
    have FV:Hid (filOne F k=if nameMay (fi F k).s=true then (if 200<(fi F k).d.size then 1 else if hasF F (fi F k).s k=true then 7 else 0) else 4):=rfl
    have FF:=hid (fun (q:filOne F k≠0)=>show T=filOne F k by rw[HT.out,Z2c F k h0.out q n hlt,if_neg q])
    have FS:=hid (Uh F k h0.out);have SS:Hid (sumF F (k+1)=sumF F k+(fi F k).d.size):=rfl;obtain⟨s,hs⟩:∃ s,(fi F k).s=s:=⟨_,rfl⟩;obtain⟨d,hd⟩:∃ d,(fi F k).d=d:=⟨_,rfl⟩;rw[hs] at x0 CN FV;rw[hd] at x1 FV SS n1;have HS:=hid hs;unfold maxLen at n1;clear hs hd n0;generalize nameMay s=r at CN FV;cases r with
    | false=>
     have E:=hid (show T=4 by rw[FF.out (by rw[FV.out]; simp),FV.out]; rfl)
     clear FV FF FS SS HH;go_wp2_with (go_at_call 123; refine (CN.out _).mono ?_; rintro _ w9 ⟨rfl,h9⟩; (have h8:=h9.symm); subst h8)
     go_ret
     exact⟨by rw[E.out]; rfl,G.out⟩
    | true=>
     rw[if_pos rfl] at FV
     by_cases h2:200<d.size
     ·have h2':(200:Int)<d.size:=by omega
      rw[if_pos h2] at FV;have E:=hid (show T=1 by rw[FF.out (by rw[FV.out]; simp),FV.out])
      clear FV FF FS SS HH;go_wp2_with (go_at_call 123; refine (CN.out _).mono ?_; rintro _ w9 ⟨rfl,h9⟩; (have h8:=h9.symm); subst h8)
      go_ret
      exact⟨by rw[E.out]; rfl,G.out⟩
     ·have h2':¬ (200:Int)<d.size:=by omega
      rw[if_neg h2] at FV;go_wp2_with (go_at_call 123; refine (CN.out _).mono ?_; rintro _ w9 ⟨rfl,h9⟩; (have h8:=h9.symm); subst h8)
      go_loopw [5] (fun i wx=>∃ j q:Nat,j<=k∧i=.int .i64 j∧Hid (hasF F s j=false)∧wx=wr.drewN q) (fun i _=>k-(RowKit.intOf i).toNat)
      case atStart=>exact⟨0,0,Nat.zero_le _,rfl,rfl,rfl⟩
      case round=>
       obtain⟨j,q,hj,rfl,hh,rfl⟩:=hrel
       by_cases jlt:j<k
       ·have jlt':(j:Int)<k:=by omega
        have jn:(j:Int)<n:=by omega
        obtain⟨b2,o2,e2,_,y0,_⟩:=(HH.out.below G.out).c j (by omega)
        cases e2
        have HN:Hid (hasF F s (j+1)=((fi F j).s.toList==s.toList)):=by show (hasF F s j||_)=_; rw[hh.out,Bool.false_or]
        have HM:=hid (fun (q:hasF F s (j+1)=true)=>show hasF F s k=true from (Qx F s k).2 (by obtain⟨i,hi,e⟩:=(Qx F s (j+1)).1 q; exact⟨i,by omega,e⟩))
        cases he:((fi F j).s.toList==s.toList) with
        | true=>
         have E:=hid (show T=7 by rw[FF.out (by rw[FV.out,if_pos (HM.out (by rw[HN.out,he]))]; simp),FV.out,if_pos (HM.out (by rw[HN.out,he]))])
         clear HN HM FV FF FS SS HH x1;generalize (fi F j).s=t at y0 he;go_wp2_with fail
         go_quiet (fail)
         go_wp2
         go_ret
         exact⟨by rw[E.out]; rfl,below_drewN (below_drewN G.out _) _⟩
        | false=>
         have E:=hid (show hasF F s (j+1)=false by rw[HN.out,he])
         clear HN HM FV FF FS SS HH x1;generalize (fi F j).s=t at y0 he;go_wp2_with fail
         go_quiet (fail)
         go_wp2
         go_roundw
         case rel=>exact⟨j+1,_,by omega,by go_num,E,by first | rfl | trivial⟩
         case measure=>simp[RowKit.intOf]; omega
       ·obtain rfl:j=k:=by omega
        have jlt':¬ (j:Int)<j:=by omega
        have E:=hid (show filN F (j+1)=0 by rw[FS.out,FV.out,hh.out]; rfl)
        have hs2:(sumF F j:Int)+d.size<=100000:=by omega
        have u:IntKind.i64.wrap ((sumF F j:Int)+d.size)=((sumF F (j+1):Nat):Int):=by rw[IntWalk.i64_in _ (by omega),SS.out]; omega
        clear FV FF FS SS HH;go_wp2
        go_roundw
        case rel=>exact⟨j+1,by omega,by first | rfl | go_num,by go_num,E,hid (below_drewN G.out _)⟩
        case measure=>simp[RowKit.intOf]; omega
   ·obtain rfl:k=n:=by omega
    have hlt':¬ (k:Int)<k:=by omega
    by_cases h6:600<sumF F k
    ·have h6':(600:Int)<sumF F k:=by omega
     have E:=hid (show T=1 by rw[HT.out,if_pos h0.out,if_pos h6])
     go_wp2
     go_ret
     exact⟨by rw[E.out]; rfl,G.out⟩
    ·have h6':¬ (600:Int)<sumF F k:=by omega
     have E:=hid (show T=0 by rw[HT.out,if_pos h0.out,if_neg h6])
     go_wp2
     go_ret
     exact⟨by rw[E.out]; rfl,G.out⟩
 ·rw[show decide ((1:Int)<=(n:Int)∧(n:Int)<=10)=false from decide_eq_false (by omega)] at CI
  rw[if_neg h1] at hT;have HT:=hid hT;clear hT H hsn;go_enter Tryz.func62,Tryz.ntmps62
  go_wp2_with (go_at_call 28; refine (CI.out _).mono ?_; rintro _ w9 ⟨rfl,h9⟩; (have h8:=h9.symm); subst h8)
  go_ret
  exact⟨by rw[HT.out]; rfl,Below.refl _ _⟩
end Go.Proofs.YtdnacpbgodooaaaGreatDoor
namespace Go.Proofs.YtdnacpbgodooaaaGreatDoor
open Go.RowKit Go.Lib
theorem Z33 (a:Option Addr) (n c:Nat) (A:Ar) (b:Option Addr) (k d:Nat) (F:List Fi) (w:World) (H:Z5 w a n A) (HF:ZV w b k F):
  Calls Tryz.prog 30 #[.agg #[.slice a n c],.slice b k d] w (OutA w (addA A F)):=by
 have hsn:=HF.sn;subst hsn;obtain⟨W,hW⟩:∃ W,W=(w.alloc (.cells #[.slice a n c] 26)).alloc (.cells #[.slice none 0 0] 26):=⟨_,rfl⟩;have hB:Below w.heap.size w W:=by rw[hW]; go_grown
 have k1:Own W w.heap.size 26 [.slice a n c]:=by rw[hW]; exact (Own.made w 26 [.slice a n c]).alloc _
 have k2:Own W (w.heap.size+1) 26 [.slice none 0 0]:=by
  have:=Own.made (w.alloc (.cells #[.slice a n c] 26)) 26 [.slice none 0 0]
  rw[show (w.alloc (.cells #[.slice a n c] 26)).heap.size=w.heap.size+1 by simp] at this
  rw[hW]; exact this
 have CA:=Yx a n c A W (H.below hB);rw[hW] at CA;have HB:=hid (And.intro hB (And.intro k1 (And.intro k2 (And.intro (H.below hB) (HF.below hB)))));have HE:=hid hW;have hlt:w.heap.size+1<W.heap.size:=k2.lt;have HN:=hid (fun (T:Int) (wx:World) (g:Below W.heap.size W wx)=>show OutA w ([],T) (.returned (.tuple #[.agg #[.slice none 0 0],.int .i64 T])) (wx.setCell ⟨w.heap.size+1,0,none⟩ (.slice none 0 0)) from Zp ((bel3 hB g).setCell (by show w.heap.size<=w.heap.size+1; omega) _))
 have HR:=hid (fun (wx:World) (g:Below W.heap.size W wx)=>And.intro ((k2.below' g).cell (i:=0) rfl) (And.intro ((k2.below' g).free 0) (World.cell?_setCell_same wx ⟨w.heap.size+1,0,none⟩ (.slice none 0 0) ((k2.below' g).cell (i:=0) rfl))))
 unfold addA;have HC:=Qk A;obtain⟨R,hR⟩:∃ R,opn A=R:=⟨_,rfl⟩;rw[hR] at CA HC ⊢;obtain⟨C,T⟩:=R;dsimp only at CA HC ⊢;have H1:=hid CA;clear CA hR hB hW H HF k1 k2
 by_cases e:T=0
 ·rw[if_pos e]
  subst e;obtain⟨hc,hm,h16⟩:=HC rfl;clear HC;unfold addC;obtain⟨O,hO⟩:∃ O:Ar × Int,O=if filChk F=0 then (if takN C F F.length=true then ([],7) else if XU A C F=true then ([],8) else (outA A C F,0)) else ([],filChk F):=⟨_,rfl⟩
  rw[<- hO];have HO:=hid hO;clear hO;go_enter Tryz.func30,Tryz.ntmps30
  go_wp2_with fail
  refine H1.out.mono ?_
  rintro _ w1 ⟨x,n1,d1,x',m,d',rfl,hX,g1⟩;rw[<- HE.out] at g1;have hn1:n1=C.1.length:=hX.B.sn;have hm1:m=C.2.length:=hX.E.sn;subst hn1 hm1;dsimp only at hX;obtain⟨W2,hW2⟩:∃ W2,W2=w1.alloc (.cells #[.slice x C.1.length d1,.slice x' C.2.length d'] 83):=⟨_,rfl⟩;have b2:Below w1.heap.size w1 W2:=by rw[hW2]; go_grown
  have hz2:W.heap.size<=w1.heap.size:=g1.size;have k3:Own W2 w1.heap.size 83 [.slice x C.1.length d1,.slice x' C.2.length d']:=by rw[hW2]; exact Own.made w1 _ _
  have G2:=hid (And.intro (g1.trans (b2.mono g1.size)) (And.intro k3 (hX.below b2)));clear g1 hX b2 k3 H1;go_upto_region 2 with fail
  rw[<- hW2];clear hW2;generalize w1.heap.size=p2 at G2 hz2 ⊢;have CF:=hid (JD b F.length d F W2 (HB.out.2.2.2.2.below G2.out.1));go_wp2_with fail
  refine CF.out.mono ?_
  rintro _ w3 ⟨rfl,g3⟩;have G3:=hid (And.intro (G2.out.1.trans (g3.mono G2.out.1.size)) (And.intro (G2.out.2.1.below' g3) (And.intro (G2.out.2.2.below g3) (HB.out.2.2.2.2.below (G2.out.1.trans (g3.mono G2.out.1.size))))));clear g3 G2 CF
  by_cases f:filChk F=0
  ·have f0:(filChk F != 0)=false:=by rw[bne_eq_false_iff_eq]; exact f
   have HF0:=hid (Xx F f);have hf:=hid f;have HC0:=hid (Xg C hc);have c0:=G3.out.2.1.cell (i:=0) rfl;have c1:=G3.out.2.1.cell (i:=1) rfl;have CC:=hid (JE x C.1.length d1 x' C.2.length d' C w3 G3.out.2.2.1 (by have:=HC0.out.1; omega) (by have:=HC0.out.2.1; omega))
   clear f;go_wp2_with fail
   refine CC.out.mono ?_
   rintro _ w4 ⟨ko,kc,eo,ec,rfl,oK,oE,g4⟩;obtain⟨W5,hW5⟩:∃ W5,W5=w4.alloc (.cells #[.slice ko C.1.length kc,.slice eo C.2.length ec] 83):=⟨_,rfl⟩;have b5:Below w4.heap.size w4 W5:=by rw[hW5]; go_grown
   have I0:Hid (AdI w3 w4.heap.size (.slice ko C.1.length kc) (.slice eo C.2.length ec) C.1 C.2 W5):=⟨by rw[hW5]; exact Own.made w4 _ _,row_to oK b5,row_to oE b5,g4.trans (b5.mono g4.size),g4.size⟩
   clear oK oE g4 b5 c0 c1 CC;go_upto_region 9 with fail
   rw[<- hW5];clear hW5;generalize w4.heap.size=p8 at I0 ⊢;go_loopw [9,10] (fun v i wr=>∃ (j:Nat) (eo:Option Addr) (em ec:Nat),j<=F.length∧v=.string (str (datN F j))∧i=.int .i64 j∧Hid (AdI w3 p8 (.slice ko C.1.length kc) (.slice eo em ec) C.1 (insAll C.2 (ZK F C.1.length j)) wr)∧Hid (takN C F j=false)∧Hid (em=C.2.length+j)) (fun _ i _=>F.length-(RowKit.intOf i).toNat)
   case atStart=>exact⟨0,eo,C.2.length,ec,Nat.zero_le _,rfl,rfl,I0,rfl,rfl⟩
   case round=>
    obtain⟨j,eo,em,ec,hj,rfl,rfl,HI,HT,HM⟩:=hrel;clear I0
    by_cases hlt:j<F.length
    ·have hlt':(j:Int)<F.length:=by omega
     have ff:=HF0.out.2.2.2 j hlt;have fs:=Ut F j F.length (by omega)
     have f3:=HF0.out.2.2.1;have hs1:sumF F j<=600:=by omega
     have hd2:=ff.2.1;have HTW:=hid (Z2a C F j ff.2.2);have HIN:Hid (insAll C.2 (ZK F C.1.length (j+1))=insE (insAll C.2 (ZK F C.1.length j)) ⟨(fi F j).s,(C.1.length:Int),(sumF F j:Int),((fi F j).d.size:Int)⟩):=Z7V C.2 F C.1.length j;have HLN:=hid (And.intro (Ve C F hc hf.out j (by omega)) (XG C F j))
     obtain⟨fb,fo,rfl,hfb,x0,x1⟩:=(G3.out.2.2.2.below HI.out.below).c j hlt;have c0:=(G3.out.2.1.below' HI.out.below).cell (i:=0) rfl;have tz:(str (datN F j)).size=sumF F j:=by rw[str_size,datN_len]
     have HD:Hid (str (datN F j)++(fi F j).d=str (datN F (j+1))):=by
      show _=_
      rw[datN,<- str_app,V7]
     have HS:=hid (fun (q:hasE C.2 (fi F j).s=true)=>Z1F C F (j+1) F.length (show (takN C F j||hasE C.2 (fi F j).s)=true by rw[q,Bool.or_true]) (by omega))
     have HS0:=hid (fun (q:hasE C.2 (fi F j).s=false)=>show takN C F (j+1)=false from show (takN C F j||hasE C.2 (fi F j).s)=false by rw[q,HT.out]; rfl)
     rw[<- HTW.out] at HS HS0;have hcl:=HC0.out.1;have hcl2:=HC0.out.2.1;have hfl:=HF0.out.1;generalize str (datN F j)=t at tz HD ⊢;generalize insAll C.2 (ZK F C.1.length j)=E at HI HS HS0 HIN HLN;generalize (fi F j).s=s at x0 HS HS0 HIN;generalize (fi F j).d=dd at x1 HIN HD hd2;clear fs f3 ff HTW;go_upto_region 11 with fail
     obtain⟨W11,hW11⟩:∃ W11,W11=(wr.alloc (.cells #[.string s,.int .i64 C.1.length,.int .i64 (sumF F j),.int .i64 dd.size] 95)).drew:=⟨_,rfl⟩;have ga:Below wr.heap.size wr (wr.alloc (.cells #[.string ⟨#[]⟩,.int .i64 0,.int .i64 0,.int .i64 0] 95)).drew:=by go_grown
     have gb:Below wr.heap.size wr W11:=by rw[hW11]; go_grown
     have JR:=hid (HI.out.start (⟨s,(C.1.length:Int),(sumF F j:Int),(dd.size:Int)⟩:En) gb (by rw[hW11]; exact (Own.made wr 95 (entC (⟨s,(C.1.length:Int),(sumF F j:Int),(dd.size:Int)⟩:En))).drew))
     refine Zq (fun w'=>w'.cell? ⟨fb,fo+j*2,none⟩=some (.string s)∧w'.cell? ⟨fb,fo+j*2+1,none⟩=some (.string dd)∧w'.cell? ⟨p2,0,none⟩=some (.slice x C.1.length d1)) (fun _=>True) 18 (by kernel_rfl) ⟨x0,x1,c0⟩ trivial (fun hT=>?_)
     refine tkn (i:=0) rfl (by kernel_rfl) (fun _ _ _ h=>h) (by rfl) (by intro w h; (try dsimp only at h); go_simp; first | done | with_reducible rfl) hT ?_
     clear hT; intro hT; try simp only[Act.put,List.setIfInBounds_toArray,List.set]
     refine tkn (i:=1) rfl (by kernel_rfl) (fun _ _ _ h=>h) (by rfl) (by intro w h; (try dsimp only at h); go_simp; first | done | with_reducible rfl) hT ?_
     clear hT; intro hT; try simp only[Act.put,List.setIfInBounds_toArray,List.set]
     refine tkn (i:=2) rfl (by kernel_rfl) (fun _ _ _ h=>h) (by rfl) (by intro w h; (try dsimp only at h); go_simp; first | done | with_reducible rfl) hT ?_
     clear hT; intro hT; try simp only[Act.put,List.setIfInBounds_toArray,List.set]
     refine tkn (i:=3) rfl (by kernel_rfl) (fun _ _ _ h=>h) (by rfl) (by intro w h; (try dsimp only at h); go_simp; first | done | with_reducible rfl) hT ?_
     clear hT; intro hT; try simp only[Act.put,List.setIfInBounds_toArray,List.set]
     refine tkn (i:=4) rfl (by kernel_rfl) (fun _ _ _ h=>h) (by rfl) (by intro w h; (try dsimp only at h); go_simp; first | done | with_reducible rfl) hT ?_
     clear hT; intro hT; try simp only[Act.put,List.setIfInBounds_toArray,List.set]
     refine tkn (i:=5) rfl (by kernel_rfl) (fun _ _ _ h=>h) (by rfl) (by intro w h; (try dsimp only at h); go_simp; first | done | with_reducible rfl) hT ?_
     clear hT; intro hT; try simp only[Act.put,List.setIfInBounds_toArray,List.set]
     refine tkn (i:=6) rfl (by kernel_rfl) (fun _ _ _ h=>h) (by rfl) (by intro w h; (try dsimp only at h); go_simp; first | done | with_reducible rfl) hT ?_
     clear hT; intro hT; try simp only[Act.put,List.setIfInBounds_toArray,List.set]
     refine tkn (i:=7) rfl (by kernel_rfl) (fun _ _ _ h=>h) (by rfl) (by intro w h; (try dsimp only at h); go_simp; first | done | with_reducible rfl) hT ?_
     clear hT; intro hT; try simp only[Act.put,List.setIfInBounds_toArray,List.set]
     refine tkn (i:=8) rfl (by kernel_rfl) (fun _ _ _ h=>h) (by rfl) (by intro w h; (try dsimp only at h); go_simp; first | done | with_reducible rfl) hT ?_
     clear hT; intro hT; try simp only[Act.put,List.setIfInBounds_toArray,List.set]
     refine tkn (i:=9) rfl (by kernel_rfl) (fun _ _ _ h=>h) (by rfl) (by intro w h; (try dsimp only at h); go_simp; first | done | with_reducible rfl) hT ?_
     clear hT; intro hT; try simp only[Act.put,List.setIfInBounds_toArray,List.set]
     refine tkn (i:=10) rfl (by kernel_rfl) (fun _ _ _ h=>h) (by rfl) (by intro w h; (try dsimp only at h); go_simp; first | done | with_reducible rfl) hT ?_
     clear hT; intro hT; try simp only[Act.put,List.setIfInBounds_toArray,List.set]
     refine tkn (i:=11) rfl (by kernel_rfl) (fun _ _ _ h=>h) (by rfl) (by intro w h; (try dsimp only at h); go_simp; first | done | with_reducible rfl) hT ?_
     clear hT; intro hT; try simp only[Act.put,List.setIfInBounds_toArray,List.set]
     refine tkn (i:=12) rfl (by kernel_rfl) (fun _ _ _ h=>h) (by rfl) (by intro w h; (try dsimp only at h); go_simp; first | done | with_reducible rfl) hT ?_
     clear hT; intro hT; try simp only[Act.put,List.setIfInBounds_toArray,List.set]
     refine tkn (i:=13) rfl (by kernel_rfl) (fun _ _ _ h=>h) (by rfl) (by intro w h; (try dsimp only at h); go_simp; first | done | with_reducible rfl) hT ?_
     clear hT; intro hT; try simp only[Act.put,List.setIfInBounds_toArray,List.set]
     refine tkn (i:=14) rfl (by kernel_rfl) (fun _ _ _ h=>h) (by rfl) (by intro w h; (try dsimp only at h); go_simp; first | done | with_reducible rfl) hT ?_
     clear hT; intro hT; try simp only[Act.put,List.setIfInBounds_toArray,List.set]
     refine tkn (i:=15) rfl (by kernel_rfl) (fun _ _ _ h=>h) (by rfl) (by intro w h; (try dsimp only at h); go_simp; first | done | with_reducible rfl) hT ?_
     clear hT; intro hT; try simp only[Act.put,List.setIfInBounds_toArray,List.set]
     refine tkn (i:=16) rfl (by kernel_rfl) (fun _ _ _ h=>h) (by rfl) (by intro w h; (try dsimp only at h); go_simp; first | done | with_reducible rfl) hT ?_
     clear hT; intro hT; try simp only[Act.put,List.setIfInBounds_toArray,List.set]
     refine Z0 (i:=17) rfl (by kernel_rfl) (fun K hK=>?_)
     go_simp;refine hK.out _ _ ?hS17 ?rest17
     case hS17=>exact⟨⟨cell_at ga x0,cell_at ga x1,cell_at ga c0⟩,fun _=>trivial⟩
     clear hT hK K; intro hT; try simp only[Act.put,List.setIfInBounds_toArray,List.set]
     refine Z0 (i:=18) rfl (by kernel_rfl) (fun K hK=>?_)
     go_simp;rw[<- hW11];refine hK.out _ _ ?hS18 ?rest18
     case hS18=>exact⟨⟨cell_at gb x0,cell_at gb x1,cell_at gb c0⟩,fun _=>trivial⟩
     clear hT hK K; intro hT; try simp only[Act.put,List.setIfInBounds_toArray,List.set]
     refine Zw (by kernel_rfl) ?_ _
     clear hT;have x1:=cell_at gb x1;have G11:=hid gb;clear hW11 ga gb x0 c0 HI G11;go_wp2_with fail
     generalize wr.heap.size=p11 at JR ⊢;go_loopw [12,13,14] (fun v dn kk wx=>∃ (q:Nat) (no:Option Addr) (nm nc:Nat),q<=E.length∧v=.slice no nm nc∧dn=.bool (grt (E.take q) (⟨s,(C.1.length:Int),(sumF F j:Int),(dd.size:Int)⟩:En))∧kk=.int .i64 q∧Hid (AdJ w3 p8 (.slice ko C.1.length kc) (.slice eo em ec) C.1 E p11 (⟨s,(C.1.length:Int),(sumF F j:Int),(dd.size:Int)⟩:En) (.slice no nm nc) (YG E (⟨s,(C.1.length:Int),(sumF F j:Int),(dd.size:Int)⟩:En) q) wx)∧Hid (hasE (E.take q) s=false)) (fun _ _ kk _=>E.length-(RowKit.intOf kk).toNat)
     case atStart=>exact⟨0,none,0,0,Nat.zero_le _,rfl,rfl,rfl,JR,rfl⟩
     case round=>
      obtain⟨q,no,nm,nc,hq,rfl,rfl,rfl,HJ,HQ⟩:=hrel;clear JR;have hel:=HLN.out.2;have hem:=HM.out
      by_cases qlt:q<E.length
      ·have qlt':(q:Int)<em:=by omega
       obtain⟨eb,eo',rfl,heb,y0,y1,y2,y3⟩:=(YB HJ.out.i.E (by unfold maxLen; omega) (fun i hi=>by have:=HLN.out.1 i hi; unfold maxLen; omega)).2.2.c q (by omega)
       have v1:=HJ.out.i.box.cell (i:=1) rfl;have z0:=HJ.out.ebx.cell (i:=0) rfl;have z1:=HJ.out.ebx.cell (i:=1) rfl;have z2:=HJ.out.ebx.cell (i:=2) rfl;have z3:=HJ.out.ebx.cell (i:=3) rfl;have NL:=hid (show (YG E (⟨s,(C.1.length:Int),(sumF F j:Int),(dd.size:Int)⟩:En) q).length<=1000 by have:=Z6p E (⟨s,(C.1.length:Int),(sumF F j:Int),(dd.size:Int)⟩:En) q; omega)
       have HH:=hid (Z6H E s q qlt);have HP:=hid (Z18 E s (q+1));have ND:=hid (Z4F E (⟨s,(C.1.length:Int),(sumF F j:Int),(dd.size:Int)⟩:En) q qlt);have NN:=hid (Z6o E (⟨s,(C.1.length:Int),(sumF F j:Int),(dd.size:Int)⟩:En) q qlt);have NH:=hid (Z4E E (⟨s,(C.1.length:Int),(sumF F j:Int),(dd.size:Int)⟩:En) q qlt);obtain⟨y,hen⟩:∃ y,en E q=y:=⟨_,rfl⟩;rw[hen] at y0 y1 y2 y3 HH ND NN NH;obtain⟨ys,yb,ya,yn⟩:=y;dsimp only at y0 y1 y2 y3 HH ND NN NH;rw[HQ.out,Bool.false_or] at HH;cases he:(ys.toList==s.toList) with
       | true=>
        have EE:=hid (show O=([],7) by rw[HO.out,if_pos hf.out,if_pos (HS.out (HP.out (by rw[HH.out,he])))])
        go_wp2_with fail
        go_quiet (fail)
        have JQ:=hid (HJ.out.to (below_drewN (Below.refl wr.heap.size wr) nq));generalize wr.drewN nq=wq at JQ ⊢;obtain⟨r0,r1,w0⟩:=HR.out wq (G3.out.1.trans (JQ.out.i.below.mono G3.out.1.size));have FIN:=hid (HN.out 7 wq (G3.out.1.trans (JQ.out.i.below.mono G3.out.1.size)));clear JQ HJ;go_wp2
        refine bodyPost_ret (v:=.tuple #[.agg #[.slice none 0 0],.int .i64 7]) (by simp[results,Tryz.results30,go_sem,w0]) rfl ?_
        rw[EE.out];exact FIN.out
       | false=>
        have HQ1:=hid (show hasE (E.take (q+1)) s=false by rw[HH.out,he])
        clear HH HP;go_wp2_with fail
        go_quiet (fail)
        have gq:=below_drewN (Below.refl wr.heap.size wr) nq;have JQ:=hid (HJ.out.to gq);have y0:=cell_at gq y0;have y1:=cell_at gq y1;have y2:=cell_at gq y2;have y3:=cell_at gq y3;have v1:=cell_at gq v1;have z0:=cell_at gq z0;have z1:=cell_at gq z1;have z2:=cell_at gq z2;have z3:=cell_at gq z3;generalize wr.drewN nq=wq at JQ y0 y1 y2 y3 v1 z0 z1 z2 z3 ⊢;clear gq HJ;cases hg:grt (E.take q) (⟨s,(C.1.length:Int),(sumF F j:Int),(dd.size:Int)⟩:En) with
        | true=>
         have N1:=hid (ND.out hg);clear ND NN NH;go_wp2_with fail
         go_quiet (fail)
         have gp:=below_drewN (Below.refl wq.heap.size wq) nq;have JP:=hid (JQ.out.to gp);have y0:=cell_at gp y0;have y1:=cell_at gp y1;have y2:=cell_at gp y2;have y3:=cell_at gp y3;have v1:=cell_at gp v1;have z0:=cell_at gp z0;have z1:=cell_at gp z1;have z2:=cell_at gp z2;have z3:=cell_at gp z3;generalize wq.drewN nq=wp at JP y0 y1 y2 y3 v1 z0 z1 z2 z3 ⊢;clear gp JQ;have K5:=hid (JP.out.to (show Below wp.heap.size wp (wp.alloc (.cells #[.string ys,.int .i64 yb,.int .i64 ya,.int .i64 yn] 95)) by go_grown))
         have M5:=hid (Wc wp (⟨ys,yb,ya,yn⟩:En) 95);go_wp2_with (at_builtin; (refine Zx _ rfl (.tmp 102) (.tmp 108) rfl (p11+1) _ (YG E (⟨s,(C.1.length:Int),(sumF F j:Int),(dd.size:Int)⟩:En) q) rfl K5.out.N ⟨wp.heap.size,0,none⟩ 1 (⟨ys,yb,ya,yn⟩:En) rfl M5.out ?_ K5.out.size ?_; (have:=NL.out; (try simp only[List.length_append,List.length_singleton]); omega); intro g5 m5 cap5 w5 hm5 hg5 hown5 hgrow5; (have J5:=hid (K5.out.app hown5 hgrow5)); clear hown5 hgrow5))
         go_roundw
         case rel=>exact⟨q+1,some ⟨g5,0,none⟩,m5,cap5,by omega,rfl,by rw[N1.out.2],by go_num,by rw[N1.out.1]; exact J5,HQ1⟩
         case measure=>simp[RowKit.intOf]; omega
        | false=>
         cases ha:ZE ys s with
         | true=>
          have N1:=hid (NN.out hg ha);have hb:Op.bytesLess ys.toList s.toList=true:=by unfold ZE at ha; rw[he,Bool.or_false] at ha; exact ha
          clear ND NN NH ha;go_wp2_with fail
          go_quiet (fail)
          have gp:=below_drewN (Below.refl wq.heap.size wq) nq;have JP:=hid (JQ.out.to gp);have y0:=cell_at gp y0;have y1:=cell_at gp y1;have y2:=cell_at gp y2;have y3:=cell_at gp y3;have v1:=cell_at gp v1;have z0:=cell_at gp z0;have z1:=cell_at gp z1;have z2:=cell_at gp z2;have z3:=cell_at gp z3;generalize wq.drewN nq=wp at JP y0 y1 y2 y3 v1 z0 z1 z2 z3 ⊢;clear gp JQ;have K5:=hid (JP.out.to (show Below wp.heap.size wp (wp.alloc (.cells #[.string ys,.int .i64 yb,.int .i64 ya,.int .i64 yn] 95)) by go_grown))
          have M5:=hid (Wc wp (⟨ys,yb,ya,yn⟩:En) 95);go_wp2_with (at_builtin; (refine Zx _ rfl (.tmp 102) (.tmp 108) rfl (p11+1) _ (YG E (⟨s,(C.1.length:Int),(sumF F j:Int),(dd.size:Int)⟩:En) q) rfl K5.out.N ⟨wp.heap.size,0,none⟩ 1 (⟨ys,yb,ya,yn⟩:En) rfl M5.out ?_ K5.out.size ?_; (have:=NL.out; (try simp only[List.length_append,List.length_singleton]); omega); intro g5 m5 cap5 w5 hm5 hg5 hown5 hgrow5; (have J5:=hid (K5.out.app hown5 hgrow5)); clear hown5 hgrow5))
          go_roundw
          case rel=>exact⟨q+1,some ⟨g5,0,none⟩,m5,cap5,by omega,rfl,by rw[N1.out.2],by go_num,by rw[N1.out.1]; exact J5,HQ1⟩
          case measure=>simp[RowKit.intOf]; omega
         | false=>
          have N1:=hid (NH.out hg ha);have hb:Op.bytesLess ys.toList s.toList=false:=by unfold ZE at ha; rw[he,Bool.or_false] at ha; exact ha
          clear ND NN NH ha;go_wp2_with fail
          go_quiet (fail)
          have gp:=below_drewN (Below.refl wq.heap.size wq) nq;have JP:=hid (JQ.out.to gp);have y0:=cell_at gp y0;have y1:=cell_at gp y1;have y2:=cell_at gp y2;have y3:=cell_at gp y3;have v1:=cell_at gp v1;have z0:=cell_at gp z0;have z1:=cell_at gp z1;have z2:=cell_at gp z2;have z3:=cell_at gp z3;generalize wq.drewN nq=wp at JP y0 y1 y2 y3 v1 z0 z1 z2 z3 ⊢;clear gp JQ;have K5:=hid (JP.out.to (show Below wp.heap.size wp (wp.alloc (.cells #[.string s,.int .i64 C.1.length,.int .i64 (sumF F j),.int .i64 dd.size] 95)) by go_grown))
          have M5:=hid (Wc wp (⟨s,(C.1.length:Int),(sumF F j:Int),(dd.size:Int)⟩:En) 95);go_upto_region 23 with (at_builtin; (refine Zx _ rfl (.tmp 98) (.tmp 100) rfl (p11+1) _ (YG E (⟨s,(C.1.length:Int),(sumF F j:Int),(dd.size:Int)⟩:En) q) rfl K5.out.N ⟨wp.heap.size,0,none⟩ 1 (⟨s,(C.1.length:Int),(sumF F j:Int),(dd.size:Int)⟩:En) rfl M5.out ?_ K5.out.size ?_; (have:=NL.out; (try simp only[List.length_append,List.length_singleton]); omega); intro g5 m5 cap5 w5 hm5 hg5 hown5 hgrow5; (have J5:=hid (K5.out.app hown5 hgrow5)); clear hown5 hgrow5))
          obtain⟨eb2,eo2,e2,_,y0,y1,y2,y3⟩:=(YB J5.out.i.E (by unfold maxLen; omega) (fun i hi=>by have:=HLN.out.1 i hi; unfold maxLen; omega)).2.2.c q (by omega)
          cases e2
          rw[hen] at y0 y1 y2 y3;dsimp only at y0 y1 y2 y3;have v1:=J5.out.i.box.cell (i:=1) rfl;have K6:=hid (J5.out.to (show Below w5.heap.size w5 (w5.alloc (.cells #[.string ys,.int .i64 yb,.int .i64 ya,.int .i64 yn] 95)) by go_grown))
          have M6:=hid (Wc w5 (⟨ys,yb,ya,yn⟩:En) 95);go_wp2_with (at_builtin; (refine Zx _ rfl (.tmp 102) (.tmp 108) rfl (p11+1) _ (YG E (⟨s,(C.1.length:Int),(sumF F j:Int),(dd.size:Int)⟩:En) q++[(⟨s,(C.1.length:Int),(sumF F j:Int),(dd.size:Int)⟩:En)]) rfl K6.out.N ⟨w5.heap.size,0,none⟩ 1 (⟨ys,yb,ya,yn⟩:En) rfl M6.out ?_ K6.out.size ?_; (have:=NL.out; (try simp only[List.length_append,List.length_singleton]); omega); intro g6 m6 cap6 w6 hm6 hg6 hown6 hgrow6; (have J6:=hid (K6.out.app hown6 hgrow6)); clear hown6 hgrow6))
          go_roundw
          case rel=>exact⟨q+1,some ⟨g6,0,none⟩,m6,cap6,by omega,rfl,by rw[N1.out.2],by go_num,by rw[N1.out.1]; exact J6,HQ1⟩
          case measure=>simp[RowKit.intOf]; omega
      ·obtain rfl:q=E.length:=by omega
       have qlt':¬ (E.length:Int)<em:=by omega
       rw[List.take_length] at HQ ⊢;rw[Z6q] at HJ;have HF1:=hid (HS0.out HQ.out);have v1:=HJ.out.i.box.cell (i:=1) rfl;have v2:=HJ.out.i.box.free 1;have NL:Hid (E.length<=1000):=by show _<=_; omega
       cases hg:grt E (⟨s,(C.1.length:Int),(sumF F j:Int),(dd.size:Int)⟩:En) with
       | true=>
        rw[if_pos hg,<- HIN.out] at HJ;have P1:=hid HJ.out.put;have P2:=hid (YB HJ.out.N (by rw[XG]; unfold maxLen; omega) (fun i hi=>by have:=Ve C F hc hf.out (j+1) (by omega) i hi; unfold maxLen; omega)).1
        rw[XG] at P2;clear HJ;go_wp2_with fail
        go_roundw
        case rel=>exact⟨j+1,no,nm,nc,by omega,by rw[HD.out],by go_num,P1,HF1,P2⟩
        case measure=>simp[RowKit.intOf]; omega
       | false=>
        rw[if_neg (by rw[hg]; decide)] at HJ
        have z0:=HJ.out.ebx.cell (i:=0) rfl;have z1:=HJ.out.ebx.cell (i:=1) rfl;have z2:=HJ.out.ebx.cell (i:=2) rfl;have z3:=HJ.out.ebx.cell (i:=3) rfl;have IE:=hid (Z6z E (⟨s,(C.1.length:Int),(sumF F j:Int),(dd.size:Int)⟩:En) hg);have K5:=hid (HJ.out.to (show Below wr.heap.size wr (wr.alloc (.cells #[.string s,.int .i64 C.1.length,.int .i64 (sumF F j),.int .i64 dd.size] 95)) by go_grown))
        have M5:=hid (Wc wr (⟨s,(C.1.length:Int),(sumF F j:Int),(dd.size:Int)⟩:En) 95);go_upto_region 26 with (at_builtin; (refine Zx _ rfl (.tmp 112) (.tmp 114) rfl (p11+1) _ (E) rfl K5.out.N ⟨wr.heap.size,0,none⟩ 1 (⟨s,(C.1.length:Int),(sumF F j:Int),(dd.size:Int)⟩:En) rfl M5.out ?_ K5.out.size ?_; (have:=NL.out; (try simp only[List.length_append,List.length_singleton]); omega); intro g5 m5 cap5 w5 hm5 hg5 hown5 hgrow5; (have J5:=hid (K5.out.app hown5 hgrow5)); clear hown5 hgrow5))
        rw[<- IE.out,<- HIN.out] at J5;have P1:=hid J5.out.put;have P2:=hid (YB J5.out.N (by rw[XG]; unfold maxLen; omega) (fun i hi=>by have:=Ve C F hc hf.out (j+1) (by omega) i hi; unfold maxLen; omega)).1
        rw[XG] at P2;have v1:=J5.out.i.box.cell (i:=1) rfl;have v2:=J5.out.i.box.free 1;clear J5 K5 M5 HJ;go_wp2_with fail
        go_roundw
        case rel=>exact⟨j+1,some ⟨g5,0,none⟩,m5,cap5,by omega,by rw[HD.out],by go_num,P1,HF1,P2⟩
        case measure=>simp[RowKit.intOf]; omega
    ·obtain rfl:j=F.length:=by omega
     have hlt':¬ (F.length:Int)<F.length:=by omega
     have hpl:=JG F HF0.out.2.2.1;have CP:=hid (JK (str (datN F F.length)) wr (by rw[str_size,datN_len]; exact HF0.out.2.2.1))
     rw[str_list] at CP;change Hid (Calls Tryz.prog _ _ wr fun e w'=>e=.returned (.tuple #[.string (str (pk F)),.int .i64 0])∧Below wr.heap.size wr w') at CP
     generalize str (datN F F.length)=Y at CP ⊢;go_wp2_with fail
     refine CP.out.mono ?_
     rintro _ w6 ⟨rfl,g6⟩;have HI6:=hid (HI.out.to g6);have hz:(str (pk F)).size=(pk F).length:=str_size _;have HZ:=hid (str_list (pk F));obtain⟨Z,hZZ⟩:∃ Z,str (pk F)=Z:=⟨_,rfl⟩;rw[hZZ] at hz HZ ⊢;clear hZZ g6 HI CP;have CN:=hid (Z0Q x C.1.length d1 x' C.2.length d' C w6 (G3.out.2.2.1.below HI6.out.below));rw[show Y4 C=((atC C:Int),0) by rw[Y4,if_pos hc]; rfl] at CN
     have c0:=(G3.out.2.1.below' HI6.out.below).cell (i:=0) rfl;have c1:=(G3.out.2.1.below' HI6.out.below).cell (i:=1) rfl;go_wp2_with fail
     refine CN.out.mono ?_
     rintro _ w7 ⟨rfl,g7⟩;have HI7:=hid (HI6.out.to g7);clear g7 HI6 CN c0 c1;obtain⟨rfl,ab,ao,hd,rfl,HA⟩:=Z8 HB.out.2.2.2.1 hm;have HP:many A=(hd 0).p:=(HA.dv 0 (by omega)).sn.symm
     have a0:=((HB.out.2.1.below' G3.out.1).below' HI7.out.below).cell (i:=0) rfl;have t0:=((HA.below G3.out.1).below HI7.out.below).three.1.1;have v1:=HI7.out.box.cell (i:=1) rfl;have c0:=(G3.out.2.1.below' HI7.out.below).cell (i:=0) rfl;have CS:=hid (fun wx=>ZI (pk F).length wx (by omega))
     have hS:secs (pk F).length<=100000:=by unfold secs; omega
     have h64:=((arMay_iff A).1 hm).2.2.2.1;have hat:=Z7p C hc;have hcl:=HC0.out.1;have hcl2:=HC0.out.2.1;have hfl:=HF0.out.1;have HU:Hid (XU A C F=decide (10<C.2.length+F.length∨10<=C.1.length∨(hd 0).p<atC C+secs (pk F).length)):=by show _=_; rw[XU,HP]
     rw[HP] at h64;have HAA:=hid HA;clear HA HP;generalize (hd 0).p=N at t0 h64 HU;generalize (hd 0).x=xx at t0;generalize (hd 0).c=cc at t0;generalize secs (pk F).length=S at CS hS HU;go_wp2_with fail
     go_cut [151] (fun s151 wx=>s151=.bool (XU A C F)∧Below w7.heap.size w7 wx)
     case first=>
      by_cases h1:10<C.2.length+F.length
      ·have h1':(10:Int)<em:=by have:=HM.out; omega
       have e1:XU A C F=true:=by rw[HU.out]; exact decide_eq_true (.inl h1)
       go_quiet ((go_at_call 66; exact Calls.quiet_of_same (CS.out _)))
       go_wp2_with fail
       go_meet
       exact⟨by rw[e1],below_drewN (Below.refl _ _) _⟩
      ·have h1':¬ (10:Int)<em:=by have:=HM.out; omega
       by_cases h2:10<=C.1.length
       ·have h2':(10:Int)<=C.1.length:=by omega
        have e1:XU A C F=true:=by rw[HU.out]; exact decide_eq_true (.inr (.inl h2))
        go_quiet ((go_at_call 66; exact Calls.quiet_of_same (CS.out _)))
        go_wp2_with fail
        go_meet
        exact⟨by rw[e1],below_drewN (Below.refl _ _) _⟩
       ·have h2':¬ (10:Int)<=C.1.length:=by omega
        by_cases h3:N<atC C+S
        ·have h3':(N:Int)<(atC C:Int)+S:=by omega
         have e1:XU A C F=true:=by rw[HU.out]; exact decide_eq_true (.inr (.inr h3))
         go_quiet ((go_at_call 66; exact Calls.quiet_of_same (CS.out _)))
         go_wp2_with fail
         go_meet
         exact⟨by rw[e1],below_drewN (Below.refl _ _) _⟩
        ·have h3':¬ (N:Int)<(atC C:Int)+S:=by omega
         have e1:XU A C F=false:=by rw[HU.out]; exact decide_eq_false (by omega)
         go_quiet ((go_at_call 66; exact Calls.quiet_of_same (CS.out _)))
         go_wp2_with fail
         go_meet
         exact⟨by rw[e1],below_drewN (Below.refl _ _) _⟩
     case rest=>
      obtain⟨rfl,g8⟩:=hcut;have HI8:=hid (HI7.out.to g8);clear g8 HI7 a0 t0 v1 c0 CS HU;cases hu:XU A C F with
      | true=>
       have EE:=hid (show O=([],8) by rw[HO.out,if_pos hf.out,if_neg (by rw[HT.out]; decide),if_pos hu])
       obtain⟨r0,r1,y0⟩:=HR.out wc (G3.out.1.trans (HI8.out.below.mono G3.out.1.size));have FIN:=hid (HN.out 8 wc (G3.out.1.trans (HI8.out.below.mono G3.out.1.size)));clear HI8;go_wp2
       refine bodyPost_ret (v:=.tuple #[.agg #[.slice none 0 0],.int .i64 8]) (by simp[results,Tryz.results30,go_sem,y0]) rfl ?_
       rw[EE.out];exact FIN.out
      | false=>
       have EE:=hid (show O=(outA A C F,0) by rw[HO.out,if_pos hf.out,if_neg (by rw[HT.out]; decide),if_neg (by rw[hu]; decide)])
       obtain⟨u1,u2,u3,_,_⟩:=Z11 A C F hm h16 hc hf.out HT.out hu;unfold outA at EE;obtain⟨U,hU⟩:∃ U,catA C F=U:=⟨_,rfl⟩;have HCU:Hid (U=(C.1++[⟨atC C,(pk F).length⟩],insAll C.2 (ZK F C.1.length F.length))):=by show _=_; rw[<- hU]; rfl
       rw[hU] at u2 u3 EE;clear hU;have v0:=HI8.out.box.cell (i:=0) rfl;have K8:=hid (HI8.out.to (show Below wc.heap.size wc (wc.alloc (.cells #[.int .i64 (atC C),.int .i64 (pk F).length] 100)) by go_grown))
       have NB:=hid (Qm wc (atC C) ((pk F).length) 100);clear hu;go_upto_region 32 with (at_builtin; (refine XZ _ rfl (.tmp 154) (.tmp 159) rfl w3.heap.size _ C.1 rfl K8.out.K ⟨wc.heap.size,0,none⟩ 1 ⟨atC C,(pk F).length⟩ rfl NB.out (by omega) K8.out.below.size ?_; intro g9 m9 cap9 w9 hm9 hg9 hown9 hgrow9; (have B9:=K8.out.block hown9 hgrow9); (have t9:=B9.1.cell (i:=0) rfl); (have s9:=B9.1.free 0); (have J9:=hid B9.2); clear hown9 hgrow9 B9))
       obtain⟨W9,hW9⟩:∃ W9,W9=w9.setCell ⟨p8,0,none⟩ (.slice (some ⟨g9,0,none⟩) m9 cap9):=⟨_,rfl⟩;rw[<- hW9] at J9 ⊢;clear hW9 t9 s9 v0 K8 NB HI8;have CE:=hid (Z30 (some ⟨g9,0,none⟩) m9 cap9 eo em ec (U) W9 (by rw[HCU.out]; exact J9.out.cat (by rw[List.length_append,List.length_singleton]; omega) (by rw[XG]; omega) (Ve C F hc hf.out F.length (Nat.le_refl _))))
       rw[show WK (U)=(encB (U),0) by rw[WK,if_pos u2]] at CE
       dsimp only at CE;have b0:=J9.out.box.cell (i:=0) rfl;have b1:=J9.out.box.cell (i:=1) rfl;have HIM:=hid (show str (encB (U))++str (List.replicate (192-(encB (U)).length) 0)=str (imgC (U)) by rw[str_app]; rfl)
       have hel:=QC _ u2;have hez:(str (encB (U))).size=(encB (U)).length:=str_size _;have ha:∀ wx,(Op.stringOp .add (str (encB (U))) (str (List.replicate (192-(encB (U)).length) 0))).run Tryz.prog wx=.ok (.string (str (imgC (U)))) wx:=fun wx=>by
        rw[<- HIM.out];exact run_string_add_sum wx _ _ (by rw[str_size,str_size,List.length_replicate]; omega)
       have CR:=hid (fun wx=>YF (192-(encB (U)).length) wx (by omega))
       have HA3:Hid (Z5 w3 (some ⟨ab,ao,none⟩) 3 A):=HB.out.2.2.2.1.below G3.out.1;have CW:Hid (∀ (wx:World),Below w3.heap.size w3 wx->Calls Tryz.prog 68 #[.agg #[.slice (some ⟨ab,ao,none⟩) 3 c],.int .i64 (atC C),.string Z] wx (OutA wx (Zg A (atC C) (pk F)))):=by
        intro wx g;rw[<- HZ.out];exact V6 _ _ _ _ _ _ _ (HA3.out.below g)
       obtain⟨R,hR⟩:∃ R,Zg A (atC C) (pk F)=R:=⟨_,rfl⟩;rw[hR] at CW u1 u3 EE;obtain⟨A1,E1⟩:=R;dsimp only at CW u1 u3 EE;subst u1;have CS2:Hid (∀ (x5:Option Addr) (n5 c5:Nat) (wx:World),Z5 wx x5 n5 A1->Calls Tryz.prog 68 #[.agg #[.slice x5 n5 c5],.int .i64 0,.string (str (imgC U))] wx (OutA wx (Zg A1 0 (imgC U)))):=by
        intro x5 n5 c5 wx hX
        have:=V6 x5 n5 c5 0 (str (imgC U)) A1 wx hX
        rw[str_list] at this;exact this
       obtain⟨R2,hR2⟩:∃ R2,Zg A1 0 (imgC (U))=R2:=⟨_,rfl⟩;rw[hR2] at CS2 u3 EE;obtain⟨A2,E2⟩:=R2;dsimp only at CS2 u3 EE;subst u3;clear hR hR2 HIM;generalize str (imgC (U))=ZY at ha CS2;have w192:IntKind.i64.wrap (192-((encB (U)).length:Int))=((192-(encB (U)).length:Nat):Int):=by rw[IntWalk.i64_in _ (by omega)]; omega
       generalize 192-(encB (U)).length=M at CR w192 ha;generalize str (List.replicate M 0)=Yn at CR ha;generalize str (encB (U))=Ze at CE hez ha;rw[<- hez] at w192;clear hez hel;go_wp2_with fail
       refine CE.out.mono ?_
       rintro _ w10 ⟨rfl,g10⟩;have G10:=hid (J9.out.below.trans (g10.mono J9.out.below.size));have CW1:=hid (CW.out w10 G10.out);have a0:=((HB.out.2.1.below' G3.out.1).below' G10.out).cell (i:=0) rfl;clear CE g10 J9 b0 b1 CW;go_wp2_with fail
       refine CW1.out.mono ?_
       rintro _ w11 ⟨⟨x5,n5,c5,rfl,hX⟩,g11⟩;obtain⟨W12,hW12⟩:∃ W12,W12=w11.alloc (.cells #[.slice x5 n5 c5] 26):=⟨_,rfl⟩;have k12:Own W12 w11.heap.size 26 [.slice x5 n5 c5]:=by rw[hW12]; exact Own.made w11 _ _
       have b12:Below w11.heap.size w11 W12:=by rw[hW12]; go_grown
       have X12:Z5 W12 x5 n5 A1:=(Z6h hX).below b12;have G12:=hid (G10.out.trans ((g11.trans (b12.mono g11.size)).mono G10.out.size));have CS3:=hid (fun wx (g:Below W12.heap.size W12 wx)=>CS2.out x5 n5 c5 wx (X12.below g))
       have r0:=((HB.out.2.2.1.below' G3.out.1).below' G12.out).cell (i:=0) rfl;have r1:=((HB.out.2.2.1.below' G3.out.1).below' G12.out).free 0;have lt12:w.heap.size+1<W12.heap.size:=((HB.out.2.2.1.below' G3.out.1).below' G12.out).lt;have hp21:w.heap.size+1<w11.heap.size:=Nat.lt_of_lt_of_le ((HB.out.2.2.1.below' G3.out.1).below' G10.out).lt g11.size;have j0:=k12.cell (i:=0) rfl;have B12:=hid (bel3 HB.out.1 (G3.out.1.trans (G12.out.mono G3.out.1.size)));have HO2:=hid (fun (wx w8:World) (x8:Option Addr) (n8 c8:Nat) (g:Below W12.heap.size W12 wx) hX (g8:Below wx.heap.size wx w8)=>Ud (w:=w) (W:=wx) (w2:=w8) (p:=w.heap.size+1) (r:=(A2,0)) (x:=x8) (n:=n8) (c:=c8) (B12.out.trans (g.mono B12.out.size)) (by omega) (Nat.lt_of_lt_of_le lt12 g.size) (cell_at g r0) hX g8)
       clear hX g11 k12 b12 X12 CS2 CW1 a0;go_upto_region 34 with fail
       rw[<- hW12];clear hW12;generalize w11.heap.size=p21 at j0 hp21 ⊢;go_region_held3 (fun w'=>w'.cell? ⟨p21,0,none⟩=some (.slice x5 n5 c5)) (go_keep) (first | (go_at_call 69; refine (CR.out _).mono ?_; rintro _ w8 ⟨rfl,h8⟩; (have h9:=h8.symm); subst h9) | (go_at_call 68; refine (CS3.out _ ((Below.refl _ W12).drew)).mono ?_; rintro _ w9 ⟨⟨x9,n9,c9,rfl,hX⟩,g9⟩; (have g9':=undrew g9); (have j9:=cell_at g9' j0); (have j9b:(w9.setCell ⟨w.heap.size+1,0,none⟩ (.slice x9 n9 c9)).cell? ⟨p21,0,none⟩=some (.slice x5 n5 c5):=by rw[World.cell?_setCell_other _ _ _ _ (fun e=>by have:=congrArg Addr.block e; dsimp only at this; omega)]; exact j9); (have F9:=hid (HO2.out _ w9 x9 n9 c9 ((Below.refl _ W12).drew) hX g9)); (have d0:=cell_at g9' r0); (have d1:=(g9'.frozen (p:=⟨w.heap.size+1,0,none⟩) lt12).trans r1); (have y9:=World.cell?_setCell_same w9 ⟨w.heap.size+1,0,none⟩ (.slice x9 n9 c9) d0); clear hX g9 g9'))
       all_goals go_wp2
       all_goals (refine bodyPost_ret (v:=.tuple #[.agg #[.slice x9 n9 c9],.int .i64 0]) (by simp[results,Tryz.results30,go_sem,y9]) rfl ?_)
       all_goals rw[EE.out]
       all_goals exact F9.out
  ·have f0:(filChk F != 0)=true:=by rw[bne_iff_ne]; exact f
   have E:=hid (show O=([],filChk F) by rw[HO.out,if_neg f])
   clear f;generalize filChk F=V at *;obtain⟨r0,r1,y0⟩:=HR.out w3 G3.out.1;have FIN:=hid (HN.out V w3 G3.out.1);clear G3;go_wp2
   refine bodyPost_ret (v:=.tuple #[.agg #[.slice none 0 0],.int .i64 V]) (by simp[results,Tryz.results30,go_sem,y0]) rfl ?_
   rw[E.out];exact FIN.out
 ·rw[if_neg e]
  have e0:(T != 0)=true:=by rw[bne_iff_ne]; exact e
  clear HC;go_enter Tryz.func30,Tryz.ntmps30
  go_wp2_with fail
  refine H1.out.mono ?_
  rintro _ w1 ⟨x,n1,d1,x',m,d',rfl,hX,g1⟩;rw[<- HE.out] at g1;have g2:=g1.alloc g1.size (.cells #[.slice x n1 d1,.slice x' m d'] 83);obtain⟨r0,r1,y0⟩:=HR.out _ g2;have FIN:=hid (HN.out T _ g2);clear hX g1 g2 H1;go_wp2
  refine bodyPost_ret (v:=.tuple #[.agg #[.slice none 0 0],.int .i64 T]) (by simp[results,Tryz.results30,go_sem,y0]) rfl ?_
  exact FIN.out
end Go.Proofs.YtdnacpbgodooaaaGreatDoor
