import Derived.Test.YtdnacpbgodooaaaGreatDoorScrubOwn
set_option maxHeartbeats 3200000
set_option maxRecDepth 8000
namespace Go.Proofs.YtdnacpbgodooaaaGreatDoor
open Go.RowKit Go.Lib
theorem Z7x (a:Option Addr) (n c:Nat) (A:Ar) (x r m:Int) (w:World) (H:Z5 w a n A) (ht:stepChk A x r m≠0):
  Calls Tryz.prog 56 #[.agg #[.slice a n c],.agg #[.int .i64 x,.int .i64 r],.int .i64 m] w (YR w (VV (stepChk A x r m))):=by
 obtain⟨W,hW⟩:∃ W,W=(((w.alloc (.cells #[.slice a n c] 26)).alloc (.cells #[.int .i64 x,.int .i64 r] 41)).alloc (.cells #[.slice none 0 0] 26)).alloc (.cells #[.int .i64 0,.int .i64 0] 41):=⟨_,rfl⟩;have hB:Below w.heap.size w W:=by rw[hW]; go_grown
 have hz:W.heap.size=w.heap.size+4:=by rw[hW]; simp
 have r6:Box1 W (w.heap.size+2) (.slice none 0 0):=⟨by rw[hW]; simp[go_sem],by rw[hW]; simp[go_sem],by omega⟩
 have r7:Box2 W (w.heap.size+3) (.int .i64 0) (.int .i64 0):=⟨by rw[hW]; simp[go_sem],by rw[hW]; simp[go_sem],by rw[hW]; simp[go_sem],by rw[hW]; simp[go_sem],by omega⟩
 have C1:=hid (Vt a n c A x r m W (H.below hB));generalize stepChk A x r m=t at C1 ht;have ht':(t != 0)=true:=bne_iff_ne.2 ht;rw[hW] at C1;have HP:=hid (And.intro hB (And.intro hW (And.intro r6 r7)));clear ht hB hz r6 r7 H hW;go_enter Tryz.func56,Tryz.ntmps56
 go_wp2_with fail
 refine C1.out.mono ?_
 rintro _ w1 ⟨rfl,g1⟩;rw[<- HP.out.2.1] at g1;have b6:=HP.out.2.2.1.below g1;have b7:=HP.out.2.2.2.below g1;have c6:=b6.c0;have f6:=b6.f0;have c70:=b7.c0;have c71:=b7.c1;have f70:=b7.f0;have f71:=b7.f1;have z6:=(b6.store (.slice none 0 0)).other (q:=⟨w.heap.size+3,0,none⟩) (by show w.heap.size+2≠w.heap.size+3; omega) (.int .i64 0)
 have z6':=z6.other (q:=⟨w.heap.size+3,1,none⟩) (by show w.heap.size+2≠w.heap.size+3; omega) (.int .i64 0)
 have z7:=(b7.other (q:=⟨w.heap.size+2,0,none⟩) (by show w.heap.size+3≠w.heap.size+2; omega) (.slice none 0 0)).store (.int .i64 0) (.int .i64 0)
 have y0:=z6'.c0;have y1:=z7.c0;have y2:=z7.c1;have HO:=hid (Yc (x:=t) ((((bel3 HP.out.1 g1).setCell (p:=⟨w.heap.size+2,0,none⟩) (by show w.heap.size<=w.heap.size+2; omega) (.slice none 0 0)).setCell (p:=⟨w.heap.size+3,0,none⟩) (by show w.heap.size<=w.heap.size+3; omega) (.int .i64 0)).setCell (p:=⟨w.heap.size+3,1,none⟩) (by show w.heap.size<=w.heap.size+3; omega) (.int .i64 0)))
 clear b6 b7 z6 z6' z7 g1;go_wp2
 refine bodyPost_ret (v:=.tuple #[.agg #[.slice none 0 0],.agg #[.int .i64 0,.int .i64 0],.int .i64 0,.slice none 0 0,.int .i64 t]) (by simp[results,Tryz.results56,go_sem,y0,y1,y2]) rfl ?_
 exact HO.out
theorem StB.ends {w wr:World} {pw b cw:Nat} {A:Ar} {x r:Int} (H:StB w pw b cw A x r wr) (u6 u7 u8:Value):
  (((wr.setCell ⟨w.heap.size+2,0,none⟩ u6).setCell ⟨w.heap.size+3,0,none⟩ u7).setCell ⟨w.heap.size+3,1,none⟩ u8).cell? ⟨w.heap.size+2,0,none⟩=some u6 ∧
  (((wr.setCell ⟨w.heap.size+2,0,none⟩ u6).setCell ⟨w.heap.size+3,0,none⟩ u7).setCell ⟨w.heap.size+3,1,none⟩ u8).cell? ⟨w.heap.size+3,0,none⟩=some u7 ∧
  (((wr.setCell ⟨w.heap.size+2,0,none⟩ u6).setCell ⟨w.heap.size+3,0,none⟩ u7).setCell ⟨w.heap.size+3,1,none⟩ u8).cell? ⟨w.heap.size+3,1,none⟩=some u8:=by
 have z6:=((H.r6.store u6).other (q:=⟨w.heap.size+3,0,none⟩) (by show w.heap.size+2≠w.heap.size+3; omega) u7).other (q:=⟨w.heap.size+3,1,none⟩) (by show w.heap.size+2≠w.heap.size+3; omega) u8
 have z7:=(H.r7.other (q:=⟨w.heap.size+2,0,none⟩) (by show w.heap.size+3≠w.heap.size+2; omega) u6).store u7 u8
 exact⟨z6.c0,z7.c0,z7.c1⟩
theorem Z7w (b o c:Nat) (h:Nat->Hd) (A:Ar) (x0:Nat) (r0:Int) (M:Nat) (w:World) (H:Arr w b o 3 h A) (hm:Z2 A=true) (hx0:x0<many A) (hr0:0<=r0) (hr1:r0<=1073741824) (hM:M<=64):
  Calls Tryz.prog 56 #[.agg #[.slice (some ⟨b,o,none⟩) 3 c],.agg #[.int .i64 (x0:Int),.int .i64 r0],.int .i64 (M:Int)] w (YR w (Uw (many A) (scN (many A) (scBegin A x0 r0) M))):=by
 obtain⟨W,hW⟩:∃ W,W=(((w.alloc (.cells #[.slice (some ⟨b,o,none⟩) 3 c] 26)).alloc (.cells #[.int .i64 (x0:Int),.int .i64 r0] 41)).alloc (.cells #[.slice none 0 0] 26)).alloc (.cells #[.int .i64 0,.int .i64 0] 41):=⟨_,rfl⟩;have hB:Below w.heap.size w W:=by rw[hW]; go_grown
 have hz:W.heap.size=w.heap.size+4:=by rw[hW]; simp
 have c0:W.cell? ⟨w.heap.size,0,none⟩=some (.slice (some ⟨b,o,none⟩) 3 c):=by rw[hW]; simp[go_sem]
 have cu:Box2 W (w.heap.size+1) (.int .i64 (x0:Int)) (.int .i64 r0):=⟨by rw[hW]; simp[go_sem],by rw[hW]; simp[go_sem],by rw[hW]; simp[go_sem],by rw[hW]; simp[go_sem],by omega⟩
 have r6:Box1 W (w.heap.size+2) (.slice none 0 0):=⟨by rw[hW]; simp[go_sem],by rw[hW]; simp[go_sem],by omega⟩
 have r7:Box2 W (w.heap.size+3) (.int .i64 0) (.int .i64 0):=⟨by rw[hW]; simp[go_sem],by rw[hW]; simp[go_sem],by rw[hW]; simp[go_sem],by rw[hW]; simp[go_sem],by omega⟩
 have hmm:=(arMay_iff A).1 hm;have hN:many A<=64:=hmm.2.2.2.1;have C1:=Vt (some ⟨b,o,none⟩) 3 c A x0 r0 M W (.inr ⟨b,o,h,rfl,H.below hB⟩);rw[show stepChk A x0 r0 M=0 by rw[stepChk,if_pos hm,if_pos (by omega),if_pos (by omega)],hW] at C1
 have CC:=hid (fun wx (g:Below W.heap.size W wx)=>XI (some ⟨b,o,none⟩) 3 c A wx (.inr ⟨b,o,h,rfl,(H.below hB).below g⟩) (ZN A hm))
 have HMay:=hid (fun k=>Q5 (many A) A x0 r0 hm rfl hx0 k)
 have HNx:=hid (fun k=>show (scN (many A) (scBegin A x0 r0) k).nx<many A by rw[Jq (many A) A x0 r0 hx0 k]; exact Nat.mod_lt _ (by omega))
 have HRd:=hid (fun k=>UA (many A) A x0 r0 k)
 have HCt:=hid (fun k=>Z48 (many A) A x0 r0 k)
 have HGl:=hid (fun k=>Z4a (many A) (scBegin A x0 r0) k)
 have HGo:=hid (Z68 (many A) A x0 r0 hx0 M);have HS0:=hid (show (scN (many A) (scBegin A x0 r0) 0)=⟨A,x0,r0,0,fun _=>false⟩∧scG (many A) (scBegin A x0 r0) 0=[] from ⟨rfl,rfl⟩)
 have HS1:=hid (fun k=>show scN (many A) (scBegin A x0 r0) (k+1)=scOne (many A) (scN (many A) (scBegin A x0 r0) k)∧scG (many A) (scBegin A x0 r0) (k+1)=(if (arHeal (scN (many A) (scBegin A x0 r0) k).A (scN (many A) (scBegin A x0 r0) k).nx).2.2=0 then scG (many A) (scBegin A x0 r0) k else scG (many A) (scBegin A x0 r0) k++[(scN (many A) (scBegin A x0 r0) k).nx]) from ⟨rfl,rfl⟩)
 generalize scG (many A) (scBegin A x0 r0)=G at HGl HGo HS0 HS1;generalize scN (many A) (scBegin A x0 r0)=Z at HMay HNx HRd HCt HGo HS0 HS1;have H1:=hid C1;have HP:=hid (And.intro hB (And.intro hW (And.intro hz (And.intro c0 (And.intro cu (And.intro r6 r7))))));generalize many A=N at HMay HNx HGo HS1 hN;generalize hPP:YR w (Uw N (Z M))=PP;have HPP:=hid hPP;clear C1 hB hW hz c0 cu r6 r7 H hm hmm hx0 hPP;go_enter Tryz.func56,Tryz.ntmps56
 go_wp2_with fail
 refine H1.out.mono ?_
 rintro _ w1 ⟨rfl,g1⟩;rw[<- HP.out.2.1] at g1;have d0:=(g1.cell (p:=⟨w.heap.size,0,none⟩) (by show w.heap.size<W.heap.size; rw[HP.out.2.2.1]; omega)).trans HP.out.2.2.2.1
 have G1:=hid g1;clear g1 H1;go_wp2_with fail
 refine (CC.out _ G1.out).mono ?_
 rintro _ w3 ⟨a3,c3,rfl,h3,g3⟩
 rcases h3 with ⟨h30,_⟩ | ⟨b3,hd3,rfl,hb3,hf3⟩
 ·omega
 have S3:=hid (Jn (cc:=c3) HP.out.1 HP.out.2.2.1 HP.out.2.2.2.2.1 HP.out.2.2.2.2.2.1 HP.out.2.2.2.2.2.2 (bel3 G1.out g3) (Nat.le_trans G1.out.size hb3) hf3.arr);clear hf3 hb3 g3 d0 G1 CC;go_wp2_with fail
 generalize w3.heap.size=pw at S3 ⊢;generalize w3.alloc _=W3 at S3 ⊢;go_loopw [13,14,30] (fun s13 v s30 wr=>∃ k:Nat,k<=M∧s13=.int .i64 (Z k).ct∧s30=.int .i64 k∧∃ b cw,Hid (StB w pw b cw (Z k).A (Z k).nx (Z k).rd wr)∧Hid (OwnN wr (w.heap.size+4) v (ups (G k)))) (fun _ _ i _=>M-(intOf i).toNat)
 case atStart=>exact⟨0,Nat.zero_le _,by rw[HS0.out.1],rfl,b3,c3,by rw[HS0.out.1]; exact S3,by rw[HS0.out.2]; exact ownN_nil _ _⟩
 case round=>
  obtain⟨k,hk,rfl,rfl,bw,cw,HB,HO⟩:=hrel;clear S3;have cb:=HCt.out k
  by_cases hlt:k<M
  ·have hlt':(k:Int)<M:=by omega
   have hx:=HNx.out k;have hrd:=HRd.out k;have hgl:=HGl.out k;have hmk:=HMay.out k;have HNX:=hid (Z7P N (Z k));have HE:=hid (HS1.out k);have HF:Hid ((scOne N (Z k)).A=(if (arHeal (Z k).A (Z k).nx).2.2=0 then (arHeal (Z k).A (Z k).nx).1 else (Z k).A)∧(scOne N (Z k)).ct=(if (arHeal (Z k).A (Z k).nx).2.2=0 then (Z k).ct+(arHeal (Z k).A (Z k).nx).2.1 else (Z k).ct)):=⟨rfl,rfl⟩
   have HH:=hid (fun e=>Qu (Z k).A hmk.1 (Z k).nx (by rw[hmk.2]; exact hx) e)
   have HC1:=HCt.out (k+1);obtain⟨hw,hA⟩:=HB.out.ar;have C2:=hid (Z17 (some ⟨bw,0,none⟩) 3 cw (Z k).nx (Z k).A wr (.inr ⟨bw,0,hw,rfl,hA⟩));have HMk:=hid hmk;have HAk:=hid hA;clear hmk hA;rw[HE.out.1] at HC1;generalize scOne N (Z k)=Z1 at HE HF HNX HC1;generalize arHeal (Z k).A (Z k).nx=R at C2 HF HE HH;generalize (Z k).A=Ak at C2 HF HE HH HMk HAk HB;generalize (Z k).nx=x at C2 HF HE HH HNX hx HB;generalize (Z k).rd=r at HNX hrd HB;generalize (Z k).ct=ct at HF cb ⊢;have d2:=HB.out.bx.c0;have d3:=HB.out.cu.c0;go_wp2_with fail
   refine C2.out.mono ?_
   rintro _ w4 ⟨⟨a6,n6,c6,rfl,h6⟩,g6⟩;go_upto_region 10 with fail
   obtain⟨W5,hW5⟩:∃ W5,W5=w4.alloc (.cells #[.slice a6 n6 c6] 26):=⟨_,rfl⟩;have b5:Below w4.heap.size w4 W5:=by rw[hW5]; exact (Below.refl _ w4).alloc (Nat.le_refl _) _
   have p5:W5.cell? ⟨w4.heap.size,0,none⟩=some (.slice a6 n6 c6):=by rw[hW5]; simp[go_sem]
   rw[<- hW5];have g5:=bel3 g6 b5;have S5:=hid (And.intro (HB.out.to g5) (HO.out.below g5));have A5:=hid (HAk.out.below g5);have HLs:=hid HB.out.bx.lt;have Q6:=hid (And.intro h6 b5);clear hW5 g6 g5 b5 h6 d2 d3 C2 HAk
   by_cases e:R.2.2=0
   ·have e':(R.2.2==0)=true:=beq_iff_eq.2 e
    have hmR:=HH.out e;have h3:=((arMay_iff R.1).1 hmR.1).1
    rcases Q6.out.1 with ⟨_,hq,_⟩ | ⟨b6,hd6,rfl,hb6,hf6⟩
    ·rw[hq] at h3; cases h3
    obtain rfl:n6=3:=by rw[hf6.arr.sn]; exact h3
    have HZ1:Hid (Z1.A=R.1∧Z1.ct=ct+R.2.1∧G (k+1)=G k):=⟨by rw[HF.out.1,if_pos e],by rw[HF.out.2,if_pos e],by rw[HE.out.2,if_pos e]⟩
    have hct:0<=ct+R.2.1∧ct+R.2.1<=192:=by have:=HZ1.out.2.1; omega
    have SN':=S5.out.1.put c6 (hf6.arr.below Q6.out.2) (show pw≠b6 by have:=HLs.out; omega) (show w.heap.size+4<=b6 by have:=HB.out.lt; omega)
    have AN':=(hf6.arr.below Q6.out.2).box (show pw≠b6 by have:=HLs.out; omega) S5.out.1.bx.c0 (.slice (some ⟨b6,0,none⟩) 3 c6)
    have OW:=S5.out.1.putN S5.out.2 (.slice (some ⟨b6,0,none⟩) 3 c6);have d2:=S5.out.1.bx.c0;have d2f:=S5.out.1.bx.f0;have HMN:=hid (show many R.1=N by rw[hmR.2]; exact HMk.out.2)
    have SN:=hid (And.intro SN' OW);have HAN:=hid AN';clear e h3 hmR hf6 hb6 SN' OW AN' HF HC1 cb HH S5 A5 Q6 HB HO;go_wp2_with fail
    obtain⟨W6,hW6⟩:∃ W6,W6=W5.setCell ⟨pw,0,none⟩ (.slice (some ⟨b6,0,none⟩) 3 c6):=⟨_,rfl⟩;rw[<- hW6] at SN HAN ⊢;clear hW6 p5 d2 d2f;generalize R.2.1=ra at HZ1 hct ⊢;generalize R.1=AR at HZ1 SN HAN HMN;have CS:=hid (fun wx (g:Below W6.heap.size W6 wx)=>XV b6 0 c6 hd6 AR wx (HAN.out.below g))
    rw[HMN.out] at CS;have CA:=hid (fun wx=>Z0n (x:Int) r N wx (by omega) (by omega) (by omega) (by omega) (by omega))
    rw[HNX.out.1,HNX.out.2] at CA;have d3:=SN.out.1.cu.c0;have d4:=SN.out.1.cu.c1;have d5:=SN.out.1.bx.c0;go_region_with
     (first | (go_at_call 57; refine (CS.out _ ((Below.refl _ W6).drew)).mono ?_; rintro _ w8 ⟨rfl,g8⟩; (have G8:=hid (undrew g8)); (have B8:=SN.out.1.to G8.out); (have k0:=B8.cu.c0); (have k1:=B8.cu.c1); (have k2:=B8.bx.c0); clear g8 B8) | (go_at_call 112; refine (CA.out _).mono ?_; rintro _ w9 ⟨rfl,g9⟩; (have S9:=hid (And.intro (SN.out.1.to (bel3 G8.out g9)) (SN.out.2.below (bel3 G8.out g9)))); (have j0:=S9.out.1.cu.c0); (have j1:=S9.out.1.cu.c1); (have j2:=S9.out.1.cu.f0); (have j3:=S9.out.1.cu.f1); (have j4:=S9.out.1.bx.c0); clear g9))
    all_goals go_wp2
    all_goals go_roundw
    all_goals (first | (case rel=>exact⟨k+1,by omega,by rw[HE.out.1,HZ1.out.2.1] <;> rfl,by go_num,b6,c6,by rw[HE.out.1,HZ1.out.1]; exact hid (S9.out.1.cur _ _),by rw[HZ1.out.2.2]; exact hid ((S9.out.2.other (by show w.heap.size+1<w.heap.size+4; omega) _).other (by show w.heap.size+1<w.heap.size+4; omega) _)⟩) | skip)
    all_goals (simp[intOf]; omega)
   ·have e':(R.2.2==0)=false:=beq_eq_false_iff_ne.2 e
    have HZ1:Hid (Z1.A=Ak∧Z1.ct=ct∧G (k+1)=G k++[x]):=⟨by rw[HF.out.1,if_neg e],by rw[HF.out.2,if_neg e],by rw[HE.out.2,if_neg e]⟩
    have S6:=hid (And.intro (S5.out.1.to ((Below.refl _ W5).alloc (Nat.le_refl _) (.cells #[.int .i64 (x:Int)] 3))) (S5.out.2.below ((Below.refl _ W5).alloc (Nat.le_refl _) (.cells #[.int .i64 (x:Int)] 3))));have d3:=S5.out.1.cu.c0;have HMN:=hid HMk.out.2;clear e HF HC1 HH A5 Q6 HB HO p5;go_wp2_with (at_builtin; (refine WF _ rfl (.tmp 46) (.tmp 49) rfl (w.heap.size+4) u14 (ups (G k)) (x:Int) rfl S6.out.2 ⟨W5.heap.size,0,none⟩ rfl (Uf W5 x 3) (by rw[Xp]; omega) S6.out.1.lt ?_; intro g7 m7 cap7 w7 hm7 hown7 hgrow7; (have SN:=hid (And.intro (S6.out.1.grown S6.out.2 hgrow7) hown7)); clear hown7 hgrow7 hm7))
    obtain⟨h7,hA7⟩:=SN.out.1.ar;have HAN:=hid hA7;clear hA7 d3 S5 S6;have CS:=hid (fun wx (g:Below w7.heap.size w7 wx)=>XV bw 0 cw h7 Ak wx (HAN.out.below g))
    rw[HMN.out] at CS;have CA:=hid (fun wx=>Z0n (x:Int) r N wx (by omega) (by omega) (by omega) (by omega) (by omega))
    rw[HNX.out.1,HNX.out.2] at CA;have d3:=SN.out.1.cu.c0;have d4:=SN.out.1.cu.c1;have d5:=SN.out.1.bx.c0;go_region_with
     (first | (go_at_call 57; refine (CS.out _ ((Below.refl _ w7).drew)).mono ?_; rintro _ w8 ⟨rfl,g8⟩; (have G8:=hid (undrew g8)); (have B8:=SN.out.1.to G8.out); (have k0:=B8.cu.c0); (have k1:=B8.cu.c1); (have k2:=B8.bx.c0); clear g8 B8) | (go_at_call 112; refine (CA.out _).mono ?_; rintro _ w9 ⟨rfl,g9⟩; (have S9:=hid (And.intro (SN.out.1.to (bel3 G8.out g9)) (SN.out.2.below (bel3 G8.out g9)))); (have j0:=S9.out.1.cu.c0); (have j1:=S9.out.1.cu.c1); (have j2:=S9.out.1.cu.f0); (have j3:=S9.out.1.cu.f1); (have j4:=S9.out.1.bx.c0); clear g9))
    all_goals go_wp2
    all_goals go_roundw
    all_goals (first | (case rel=>exact⟨k+1,by omega,by rw[HE.out.1,HZ1.out.2.1] <;> rfl,by go_num,bw,cw,by rw[HE.out.1,HZ1.out.1]; exact hid (S9.out.1.cur _ _),by rw[HZ1.out.2.2,Z1B]; exact hid ((S9.out.2.other (by show w.heap.size+1<w.heap.size+4; omega) _).other (by show w.heap.size+1<w.heap.size+4; omega) _)⟩) | skip)
    all_goals (simp[intOf]; omega)
  ·have hlt':¬ (k:Int)<M:=by omega
   obtain rfl:k=M:=by omega
   clear hlt hk;have hgl:=HGl.out k;have HRet:=hid (fun wx a2 n2 c2 (E:StB w pw bw cw (Z k).A (Z k).nx (Z k).rd wx) (hI:ZP wx a2 n2 (ups (goneOf N (Z k).lo))) (hx2:0<n2->∀ b o s,a2=some ⟨b,o,s⟩->w.heap.size+4<=b)=>show PP (.returned (.tuple #[.agg #[.slice (some ⟨bw,0,none⟩) 3 cw],.agg #[.int .i64 ((Z k).nx:Int),.int .i64 (Z k).rd],.int .i64 (Z k).ct,.slice a2 n2 c2,.int .i64 0])) _ by rw[<- HPP.out]; exact E.out c2 hI hx2 (Z k).ct)
   have SD:=hid (And.intro (HB.out.to ((Below.refl _ wr).drew)) (HO.out.below ((Below.refl _ wr).drew)));have CR:=hid (Z2X (w.heap.size+4) u14 (ups (G k)) wr.drew SD.out.2 (by rw[Xp]; omega))
   rw[HGo.out] at CR;generalize goneOf N (Z k).lo=GG at CR HRet;generalize (Z k).A=Ak at HB SD HRet;generalize ((Z k).nx:Int)=x at HB SD HRet;generalize (Z k).rd=r at HB SD HRet;generalize (Z k).ct=ct at HRet cb ⊢;have d2:=HB.out.bx.c0;have d3:=HB.out.cu.c0;have d4:=HB.out.cu.c1;clear HGo HS0 HS1 HMay HNx HRd HCt HGl HB HO HPP;go_wp2_with fail
   go_region_with (go_at_call 113; refine CR.out.mono ?_; rintro _ w9 ⟨⟨a2,n2,c2,rfl,hI,hx2⟩,g9⟩; (have E9:=hid (And.intro (SD.out.1.grown SD.out.2 g9) (And.intro hI hx2))); (have k0:=E9.out.1.bx.c0); (have k1:=E9.out.1.cu.c0); (have k2:=E9.out.1.cu.c1); (have k3:=E9.out.1.r6.c0); (have k4:=E9.out.1.r6.f0); (have k5:=E9.out.1.r7.c0); (have k6:=E9.out.1.r7.c1); (have k7:=E9.out.1.r7.f0); (have k8:=E9.out.1.r7.f1); clear g9 hI hx2)
   all_goals obtain⟨y0,y1,y2⟩:=E9.out.1.ends (.slice (some ⟨bw,0,none⟩) 3 cw) (.int .i64 x) (.int .i64 r)
   all_goals go_wp2
   all_goals refine bodyPost_ret (v:=.tuple #[.agg #[.slice (some ⟨bw,0,none⟩) 3 cw],.agg #[.int .i64 x,.int .i64 r],.int .i64 ct,.slice a2 n2 c2,.int .i64 0]) (by simp[results,Tryz.results56,go_sem,y0,y1,y2]) rfl ?_
   all_goals exact HRet.out _ _ _ _ E9.out.1 E9.out.2.1 E9.out.2.2
theorem Z63 (a:Option Addr) (n c:Nat) (A:Ar) (x r m:Int) (w:World) (H:Z5 w a n A):
  Calls Tryz.prog 56 #[.agg #[.slice a n c],.agg #[.int .i64 x,.int .i64 r],.int .i64 m] w (YR w (arStep A x r m)):=by
 by_cases h:stepChk A x r m=0
 ·have hm:Z2 A=true:=by
   unfold stepChk at h
   split at h
   ·assumption
   ·cases h
  rw[stepChk,if_pos hm] at h;have h1:(0<=x∧x<many A)∧0<=r∧r<=1073741824:=by
   split at h
   ·assumption
   ·cases h
  rw[if_pos h1] at h;have h2:0<=m∧m<=64:=by
   split at h
   ·assumption
   ·cases h
  rw[arStep,if_pos hm,if_pos h1,if_pos h2];obtain⟨x',rfl⟩:∃ x':Nat,x=x':=⟨x.toNat,by omega⟩
  obtain⟨m',rfl⟩:∃ m':Nat,m=m':=⟨m.toNat,by omega⟩
  obtain⟨rfl,b,o,hd,rfl,HX⟩:=Z8 H hm;exact Z7w b o c hd A x' r m' w HX hm (by omega) h1.2.1 h1.2.2 (by omega)
 ·have e:arStep A x r m=VV (stepChk A x r m):=by
   unfold stepChk at h;unfold arStep stepChk
   split
   ·split
    ·split
     ·rename_i h1 h2 h3
      rw[if_pos h1,if_pos h2,if_pos h3] at h;exact absurd rfl h
     ·rfl
    ·rfl
   ·rfl
  rw[e];exact Z7x a n c A x r m w H h
end Go.Proofs.YtdnacpbgodooaaaGreatDoor
