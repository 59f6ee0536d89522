import Derived.Test.YtdnacpbgodooaaaGreatDoorHealPure
import Derived.Test.YtdnacpbgodooaaaGreatDoorArrA
set_option maxHeartbeats 1600000
set_option maxRecDepth 4000
namespace Go.Proofs.YtdnacpbgodooaaaGreatDoor
open Go.RowKit Go.Lib
theorem US (s t:ByteArray) (w:World) (hs:s.size<=1000) (hse:s.size=t.size):
  Calls Tryz.prog 198 #[.string s,.string t] w fun e w'=>e=.returned (.string (str (diffs s.data.toList t.data.toList)))∧Below w.heap.size w w':=by
 have hst:t.size<=s.size:=by omega
 have hst2:s.size<=t.size:=by omega
 clear hse;have hconv:=run_bytes_of_string (P:=Tryz.prog) w 9 103 5 s Tryz.underlying9 Tryz.underlying103 Tryz.underlying5;generalize grownCap w s.size 0 5=cap at hconv;obtain⟨C,hC,hsz,hcell⟩:=Qb s cap;rw[hC] at hconv;clear hC;have H0:=hid (And.intro (U3 w s C hsz hcell) ((Below.refl _ w).alloc (Nat.le_refl _) (.cells C 5 (C.size,C.size+1))));clear hsz hcell;go_enter Tryz.func198,Tryz.ntmps198
 go_wp2_with fail
 clear hconv;go_loopw [11] (fun i wr=>∃ I:Nat,i=.int .i64 I∧I<=t.size∧Hid (Y6 wr w.heap.size (diffs s.data.toList (t.data.toList.take I))∧Below w.heap.size w wr)) (fun i _=>t.size-(intOf i).toNat)
 case atStart=>exact⟨0,rfl,Nat.zero_le _,by rw[List.take_zero,Z0a]; exact hid (And.intro H0.out.1.drew H0.out.2.drew)⟩
 case round=>
  obtain⟨I,rfl,hI,HO⟩:=hrel;clear H0
  by_cases hlt:I<t.size
  ·have hlt':(I:Int)<t.size:=by omega
   have hlt2:(I:Int)<s.size:=by omega
   have bs:=s[I].toNat_lt;have bt:=t[I].toNat_lt;have ux:bits .xor .u8 (s[I].toNat:Int) (t[I].toNat:Int)=((s[I] ^^^ t[I]).toNat:Int):=by rw[u8_xor_nat _ _ bs bt,UInt8.toNat_xor]
   have hl:t.data.toList.length<=s.data.toList.length:=by rw[ba_len,ba_len]; exact hst
   have hl2:(t.data.toList.take I).length<=s.data.toList.length:=by rw[List.length_take]; omega
   have hk:I<(diffs s.data.toList (t.data.toList.take I)).length:=by rw[Wh _ _ hl2,ba_len]; omega
   have hc:=HO.out.1.at_ I hk;rw[Z2j _ _ I (by rw[List.length_take]; omega) (by rw[ba_len]; omega) hl2] at hc
   obtain⟨c1,c2⟩:=hc;change wr.cell? _=some (.int .u8 (s[I].toNat:Int)) at c1
   have hst':=HO.out.1.drew.set I hk (s[I] ^^^ t[I]);have hstep:(diffs s.data.toList (t.data.toList.take I)).set I (s[I] ^^^ t[I])=diffs s.data.toList (t.data.toList.take (I+1)):=TJ s.data.toList t.data.toList I (by rw[ba_len]; omega) hl
   rw[hstep] at hst';have HK:=hid (And.intro hst' (HO.out.2.drew.setCell (p:=⟨w.heap.size,I,none⟩) (Nat.le_refl _) (.int .u8 ((s[I] ^^^ t[I]).toNat:Int))));clear hst' hstep hk hl hl2 HO;generalize s[I] ^^^ t[I]=z at ux HK;go_wp2_with fail
   go_region
   all_goals go_wp2
   all_goals go_roundw
   all_goals (first | (case rel=>exact⟨I+1,by go_num,by omega,HK.out⟩) | skip)
   all_goals (simp[intOf]; omega)
  ·obtain rfl:I=t.size:=by omega
   have hnl:¬ (t.size:Int)<s.size:=by omega
   have ht:t.data.toList.take t.size=t.data.toList:=by rw[<- ba_len,List.take_length]
   rw[ht] at HO;have hcv:=fun cap=>U4 (cap:=cap) (n:=s.size) HO.out.1 (by rw[Wh _ _ (by rw[ba_len,ba_len]; exact hst),ba_len])
   go_wp2
   go_ret
   exact⟨rfl,HO.out.2⟩
theorem Yf (n:Nat) (w:World) (h:n<=1000):Calls Tryz.prog 166 #[.int .i64 n] w fun e w'=>e=.returned (.int .i64 ((512+n / 2:Nat):Int))∧w'=w:=by
 go_enter Tryz.func166,Tryz.ntmps166
 go_wp2
 go_ret
 exact⟨ret_int (by omega),rfl⟩
theorem TD (x:Option Addr) (p c:Nat) (y:Option Addr) (q d:Nat) (n no:Int) (s:List UInt8) (D:Dv) (w:World) (H:Zc w x p y q D):
  Calls Tryz.prog 171 #[.agg #[.slice x p c,.slice y q d],.int .i64 n,.int .i64 no,.string (str s)] w fun e w'=>e=.returned (.bool (tellsD D n no s))∧Below w.heap.size w w':=by
 obtain⟨W,hW,hB,bx⟩:=boxedx (e:=c) (e':=d) H;have C:=Va x p c y q d n no D W bx.d;rw[hW] at C;have v0:=bx.b.c0;have v1:=bx.b.c1;rw[hW] at v0 v1;unfold tellsD;generalize dvRead D n no=r at C;have HC:=hid C;have HE:=hid (And.intro hW hB);clear C hW hB bx H;go_enter Tryz.func171,Tryz.ntmps171
 go_wp2_with fail
 refine HC.out.mono ?_
 rintro _ w1 ⟨rfl,g1⟩;rw[<- HE.out.1] at g1;have G1:=hid (bel3 HE.out.2 g1);clear g1
 by_cases e0:r.2=0
 ·have e0':(r.2==0)=true:=beq_iff_eq.2 e0
  have HR:Hid (((str r.1).toList==(str s).toList)=decide (r.2=0∧r.1=s)):=by show _=_; rw[Z1D]; simp[e0]
  clear e0;go_wp2
  go_ret
  exact⟨Z7 HR.out,G1.out⟩
 ·have e0':(r.2==0)=false:=beq_eq_false_iff_ne.2 e0
  have HR:Hid (decide (r.2=0∧r.1=s)=false):=by show _=_; simp[e0]
  clear e0;go_wp2
  go_ret
  exact⟨Z7 HR.out.symm,G1.out⟩
def parX (A:Ar) (n:Nat):List UInt8:=if known A n=true then xors (tell A n).1 (tell A (part n)).1 else []
theorem Vh (b o c:Nat) (h:Nat->Hd) (A:Ar) (k:Nat) (w:World) (H:Arr w b o 3 h A) (hm:Z2 A=true) (hk:k<many A):
  Calls Tryz.prog 165 #[.agg #[.slice (some ⟨b,o,none⟩) 3 c],.int .i64 k] w fun e w'=>e=.returned (.tuple #[.string (str (parX A k)),.bool (known A k)])∧Below w.heap.size w w':=by
 obtain⟨W,hW⟩:∃ W,W=w.alloc (.cells #[.slice (some ⟨b,o,none⟩) 3 c] 26):=⟨_,rfl⟩;have hB:Below w.heap.size w W:=by rw[hW]; go_grown
 have hz:W.heap.size=w.heap.size+1:=by rw[hW]; simp
 have c0:W.cell? ⟨w.heap.size,0,none⟩=some (.slice (some ⟨b,o,none⟩) 3 c):=by rw[hW]; simp
 have hmm:=(arMay_iff A).1 hm;have hk64:k<=64:=by omega
 have HA:∀ wx,Below W.heap.size W wx->Z5 wx (some ⟨b,o,none⟩) 3 A:=fun wx g=>.inr ⟨b,o,h,rfl,(H.below hB).below g⟩
 have C1:=Xo (some ⟨b,o,none⟩) 3 c k A W (HA W (Below.refl _ _));have C2:=fun wx (g:Below W.heap.size W wx)=>Xo (some ⟨b,o,none⟩) 3 c (part k) A wx (HA wx g)
 rw[Zl A (part k) hm (WP k _ hk hmm.2.2.2.2.1)] at C2;rw[Zl A k hm hk,hW] at C1;have l1:=ZR A k;have l2:=ZR A (part k);have hx:=Z3L k (by omega)
 unfold parX known;generalize tell A k=r1 at C1 l1;generalize tell A (part k)=r2 at C2 l2;have H1:=hid C1;have H2:=hid C2;have HP:=hid (And.intro hB (And.intro hW (And.intro hz c0)));have HL:=hid (And.intro l1 l2);clear C1 C2 hB hW hz c0 HA H hm hk hmm l1 l2
 by_cases e1:r1.2.2=0
 ·have e1':(r1.2.2 != 0)=false:=bne_eq_false_iff_eq.2 e1
  by_cases e2:r2.2.2=0
  ·have e2':(r2.2.2 != 0)=false:=bne_eq_false_iff_eq.2 e2
   rw[decide_eq_true (show r1.2.2=0∧r2.2.2=0 from ⟨e1,e2⟩),if_pos rfl];have l1:=HL.out.1 e1;have l2:=HL.out.2 e2;have CD:=hid (fun wx=>US (str r1.1) (str r2.1) wx (by rw[str_size,l1]; omega) (by rw[str_size,str_size,l1,l2]))
   rw[str_list,str_list,TM _ _ (by rw[l1,l2])] at CD
   clear e1 e2 l1 l2;go_enter Tryz.func165,Tryz.ntmps165
   go_wp2_with fail
   refine H1.out.mono ?_
   rintro _ w1 ⟨rfl,g1⟩;rw[<- HP.out.2.1] at g1;have d0:=(g1.cell (p:=⟨w.heap.size,0,none⟩) (by show w.heap.size<W.heap.size; rw[HP.out.2.2.1]; omega)).trans HP.out.2.2.2
   have G1:=hid g1;clear g1;go_wp2_with fail
   refine (H2.out _ G1.out).mono ?_
   rintro _ w2 ⟨rfl,g2⟩;have G2:=hid (bel3 G1.out g2);clear g2 d0;go_wp2_with fail
   refine (CD.out _).mono ?_
   rintro _ w3 ⟨rfl,g3⟩;go_wp2
   go_ret2
   exact⟨rfl,bel3 HP.out.1 (bel3 G2.out g3)⟩
  ·have e2':(r2.2.2 != 0)=true:=bne_iff_ne.2 e2
   rw[decide_eq_false (show ¬ (r1.2.2=0∧r2.2.2=0) from fun x=>e2 x.2),if_neg (by decide)]
   clear e1 e2;go_enter Tryz.func165,Tryz.ntmps165
   go_wp2_with fail
   refine H1.out.mono ?_
   rintro _ w1 ⟨rfl,g1⟩;rw[<- HP.out.2.1] at g1;have d0:=(g1.cell (p:=⟨w.heap.size,0,none⟩) (by show w.heap.size<W.heap.size; rw[HP.out.2.2.1]; omega)).trans HP.out.2.2.2
   have G1:=hid g1;clear g1;go_wp2_with fail
   refine (H2.out _ G1.out).mono ?_
   rintro _ w2 ⟨rfl,g2⟩;go_wp2
   go_ret2
   exact⟨rfl,bel3 HP.out.1 (bel3 G1.out g2)⟩
 ·have e1':(r1.2.2 != 0)=true:=bne_iff_ne.2 e1
  rw[decide_eq_false (show ¬ (r1.2.2=0∧r2.2.2=0) from fun x=>e1 x.1),if_neg (by decide)]
  clear e1;go_enter Tryz.func165,Tryz.ntmps165
  go_wp2_with fail
  refine H1.out.mono ?_
  rintro _ w1 ⟨rfl,g1⟩;rw[<- HP.out.2.1] at g1;go_wp2
  go_ret2
  exact⟨rfl,bel3 HP.out.1 g1⟩
theorem Z6c (A:Ar) (k:Nat):right A k=(known A k&&tellsD (dev A 2) ((k / 2:Nat):Int) ((512+k / 2:Nat):Int) (parX A k)):=by
 unfold right parX tellsD pari;cases known A k <;> rfl
theorem U7 (b o c:Nat) (h:Nat->Hd) (A:Ar) (k:Nat) (w:World) (H:Arr w b o 3 h A) (hm:Z2 A=true) (hk:k<many A):
  Calls Tryz.prog 115 #[.agg #[.slice (some ⟨b,o,none⟩) 3 c],.int .i64 k] w fun e w'=>e=.returned (.bool (right A k))∧Below w.heap.size w w':=by
 obtain⟨W,hW⟩:∃ W,W=w.alloc (.cells #[.slice (some ⟨b,o,none⟩) 3 c] 26):=⟨_,rfl⟩;have hB:Below w.heap.size w W:=by rw[hW]; go_grown
 have hz:W.heap.size=w.heap.size+1:=by rw[hW]; simp
 have c0:W.cell? ⟨w.heap.size,0,none⟩=some (.slice (some ⟨b,o,none⟩) 3 c):=by rw[hW]; simp
 have hmm:=(arMay_iff A).1 hm;have hk64:k<=64:=by omega
 have C1:=Vh b o c h A k W (H.below hB) hm hk;rw[hW] at C1;rw[Z6c];have C2:=hid (fun wx (g:Below W.heap.size W wx)=>TD (h 2).x (h 2).p (h 2).c (h 2).y (h 2).q (h 2).d ((k / 2:Nat):Int) ((512+k / 2:Nat):Int) (parX A k) (dev A 2) wx (((H.below hB).below g).dv 2 (by omega)))
 have CP:=hid (fun wx=>Yf k wx (by omega))
 generalize tellsD (dev A 2) ((k / 2:Nat):Int) ((512+k / 2:Nat):Int) (parX A k)=T at C2;generalize parX A k=X at C1 C2;generalize known A k=K at C1;have u1:IntKind.i64.wrap ((k:Int) / 2)=((k / 2:Nat):Int):=by rw[IntWalk.i64_in _ (by omega)]; omega
 generalize ((512+k / 2:Nat):Int)=R at C2 CP;generalize ((k / 2:Nat):Int)=Q at C2 u1;have H1:=hid C1;have HP:=hid (And.intro hB (And.intro hW (And.intro hz (And.intro c0 (H.below hB)))));clear C1 hB hW hz c0 H hm hk hmm;go_enter Tryz.func115,Tryz.ntmps115
 go_wp2_with fail
 refine H1.out.mono ?_
 rintro _ w1 ⟨rfl,g1⟩;rw[<- HP.out.2.1] at g1;have d0:=(g1.cell (p:=⟨w.heap.size,0,none⟩) (by show w.heap.size<W.heap.size; rw[HP.out.2.2.1]; omega)).trans HP.out.2.2.2.1
 have G1:=hid g1;obtain⟨_,_,t4,t5⟩:=(HP.out.2.2.2.2.below g1).three;clear g1 H1;cases K with
 | false=>
  go_wp2_with fail
  go_quiet (fail)
  all_goals go_wp2
  all_goals go_ret
  all_goals exact⟨rfl,bel3 HP.out.1 (below_drewN G1.out _)⟩
 | true=>
  go_wp2_with fail
  go_region_held3 (fun w'=>w'.cell? ⟨w.heap.size,0,none⟩=some (.slice (some ⟨b,o,none⟩) 3 c)∧w'.cell? ⟨b,o+4,none⟩=some (.slice (h 2).x (h 2).p (h 2).c)∧w'.cell? ⟨b,o+5,none⟩=some (.slice (h 2).y (h 2).q (h 2).d)) (go_keep)
   (first | (go_at_call 166; refine (CP.out _).mono ?_; rintro _ w9 ⟨rfl,h9⟩; (have h8:=h9.symm); subst h8) | (go_at_call 171; refine (C2.out _ G1.out.drew).mono ?_; rintro _ w9 ⟨rfl,g9⟩; (have G9:=hid (bel3 G1.out.drew g9)); (have j0:=(G9.out.cell (p:=⟨w.heap.size,0,none⟩) (by show w.heap.size<W.heap.size; rw[HP.out.2.2.1]; omega)).trans HP.out.2.2.2.1); (have j4:=(HP.out.2.2.2.2.below G9.out).three.2.2.1); (have j5:=(HP.out.2.2.2.2.below G9.out).three.2.2.2); clear g9))
  all_goals go_wp2
  all_goals go_ret
  all_goals exact⟨rfl,bel3 HP.out.1 G9.out⟩
end Go.Proofs.YtdnacpbgodooaaaGreatDoor
namespace Go.Proofs.YtdnacpbgodooaaaGreatDoor
open Go.RowKit Go.Lib
def mis (A:Ar) (d n:Nat):Int:=if (dvRead (dev A d) n n).2=0 then 0 else 1
def mis2 (A:Ar) (n:Nat):Nat->Int
 | 0=>0
 | k+1=>mis2 A n k+mis A k n
theorem Z14 (A:Ar) (n:Nat):∀ k,0<=mis2 A n k∧mis2 A n k<=k
 | 0=>⟨Int.le_refl _,Int.le_refl _⟩
 | k+1=>by
  have:=Z14 A n k
  have:0<=mis A k n∧mis A k n<=1:=by unfold mis; split <;> omega
  unfold mis2;omega
theorem Z8r (A:Ar) (n:Nat):bad1 A n=mis2 A n 2+if n % 2=0∧right A n=false then 1 else 0:=by
 unfold bad1 mis2 mis2 mis2 mis;omega
theorem Z5Z (A:Ar) (n:Nat):(tell A n).2.2=0∨(tell A n).2.2=11:=by
 unfold tell
 split
 ·exact .inl rfl
 ·split
  ·exact .inr rfl
  ·exact .inl rfl
theorem Z7Y (b o c:Nat) (h:Nat->Hd) (A:Ar) (k:Nat) (w:World) (H:Arr w b o 3 h A) (hm:Z2 A=true) (hk:k<many A):
  Calls Tryz.prog 58 #[.agg #[.slice (some ⟨b,o,none⟩) 3 c],.int .i64 k] w fun e w'=>e=.returned (.tuple #[.int .i64 (bad1 A k),.int .i64 0])∧Below w.heap.size w w':=by
 obtain⟨W,hW⟩:∃ W,W=w.alloc (.cells #[.slice (some ⟨b,o,none⟩) 3 c] 26):=⟨_,rfl⟩;have hB:Below w.heap.size w W:=by rw[hW]; go_grown
 have hz:W.heap.size=w.heap.size+1:=by rw[hW]; simp
 have c0:W.cell? ⟨w.heap.size,0,none⟩=some (.slice (some ⟨b,o,none⟩) 3 c):=by rw[hW]; simp
 have hmm:=(arMay_iff A).1 hm;have hk64:k<=64:=by omega
 have C1:=Xo (some ⟨b,o,none⟩) 3 c k A W (.inr ⟨b,o,h,rfl,H.below hB⟩);rw[Zl A k hm hk,hW] at C1;have hte:=Z5Z A k;generalize tell A k=r at C1 hte;have C2:=hid (fun (j:Nat) (hj:j<3) wx (g:Below W.heap.size W wx)=>Va (h j).x (h j).p (h j).c (h j).y (h j).q (h j).d k k (dev A j) wx (((H.below hB).below g).dv j hj))
 have C3:=hid (fun wx (g:Below W.heap.size W wx)=>U7 b o c h A k wx ((H.below hB).below g) hm hk)
 have HB:=hid (Z8r A k);generalize bad1 A k=Z at HB;generalize right A k=R at C3 HB;have H1:=hid C1;have HP:=hid (And.intro hB (And.intro hW (And.intro hz (And.intro c0 (H.below hB)))));have HTE:=hid hte;clear C1 hB hW hz c0 H hm hk hmm hte;go_enter Tryz.func58,Tryz.ntmps58
 go_wp2_with fail
 refine H1.out.mono ?_
 rintro _ w1 ⟨rfl,g1⟩;rw[<- HP.out.2.1] at g1;have G1:=hid g1;clear g1 H1
 rcases HTE.out with hr | hr
 ·have e1:(r.2.2 != 0)=false:=bne_eq_false_iff_eq.2 hr
  have e2:(r.2.2 != 0)=false:=e1;clear hr;go_wp2_with fail
  clear e1 e2;go_loopw [9,10] (fun s9 s10 wr=>∃ j:Nat,j<=2∧s9=.int .i64 (mis2 A k j)∧s10=.int .i64 j∧Hid (Below W.heap.size W wr)) (fun _ i _=>2-(intOf i).toNat)
  case atStart=>exact⟨0,by omega,rfl,rfl,G1.out⟩
  case round=>
   obtain⟨j,hj,rfl,rfl,HG⟩:=hrel;clear G1;have mb:=Z14 A k j;have d0:=(HG.out.cell (p:=⟨w.heap.size,0,none⟩) (by show w.heap.size<W.heap.size; rw[HP.out.2.2.1]; omega)).trans HP.out.2.2.2.1
   by_cases hlt:j<2
   ·have hlt':(j:Int)<=1:=by omega
    have hlt2:(j:Int)<3:=by omega
    have t0:=(HP.out.2.2.2.2.below HG.out).c0 j (by omega)
    have t1:=(HP.out.2.2.2.2.below HG.out).c1 j (by omega)
    have C:=hid (C2.out j (by omega) wr HG.out)
    have HM:Hid (mis2 A k (j+1)=mis2 A k j+(if (dvRead (dev A j) k k).2=0 then 0 else 1)):=rfl
    generalize dvRead (dev A j) k k=r1 at C HM;obtain⟨M1,hM1⟩:∃ M1,mis2 A k (j+1)=M1:=⟨_,rfl⟩;have HM1:=hid hM1;rw[hM1] at HM;clear hM1;generalize mis2 A k j=M at mb HM
    by_cases e:r1.2=0
    ·have e':(r1.2 != 0)=false:=bne_eq_false_iff_eq.2 e
     have HN:Hid (M1=M):=by show _=_; rw[HM.out,if_pos e]; omega
     clear e;go_wp2_with fail
     refine C.out.mono ?_
     rintro _ w2 ⟨rfl,g2⟩;have G2:=hid (bel3 HG.out g2);clear g2 C d0 t0 t1;go_wp2
     go_roundw
     case rel=>exact⟨j+1,by omega,by rw[HM1.out,HN.out] <;> rfl,by go_num,G2.out⟩
     case measure=>simp[intOf]; omega
    ·have e':(r1.2 != 0)=true:=bne_iff_ne.2 e
     have HN:Hid (M1=M+1):=by show _=_; rw[HM.out,if_neg e]
     clear e;go_wp2_with fail
     refine C.out.mono ?_
     rintro _ w2 ⟨rfl,g2⟩;have G2:=hid (bel3 HG.out g2);clear g2 C d0 t0 t1;go_wp2
     go_roundw
     case rel=>exact⟨j+1,by omega,by rw[HM1.out,HN.out] <;> rfl,by go_num,G2.out⟩
     case measure=>simp[intOf]; omega
   ·obtain rfl:j=2:=by omega
    have hnl:¬ ((2:Nat):Int)<=1:=by decide
    clear hlt hj;generalize mis2 A k 2=M at mb HB
    by_cases h2:k % 2=0
    ·have e:((k:Int).tmod 2==0)=true:=by rw[beq_iff_eq,Int.tmod_eq_emod_of_nonneg (by omega)]; omega
     go_wp2_with fail
     refine (C3.out _ HG.out).mono ?_
     rintro _ w2 ⟨rfl,g2⟩;have G2:=hid (bel3 HP.out.1 (bel3 HG.out g2));clear g2 d0;cases R with
     | true=>
      have HZ:Hid (Z=M):=by show _=_; rw[HB.out,if_neg (by simp)]; omega
      clear HB;go_wp2
      go_ret2
      exact⟨by rw[HZ.out] <;> rfl,G2.out⟩
     | false=>
      have HZ:Hid (Z=M+1):=by show _=_; rw[HB.out,if_pos ⟨h2,rfl⟩]
      clear HB;go_wp2
      go_ret2
      exact⟨by rw[HZ.out] <;> rfl,G2.out⟩
    ·have e:((k:Int).tmod 2==0)=false:=by rw[beq_eq_false_iff_ne,Int.tmod_eq_emod_of_nonneg (by omega)]; omega
     have HZ:Hid (Z=M):=by show _=_; rw[HB.out,if_neg (fun x=>h2 x.1)]; omega
     clear HB;go_wp2
     go_ret2
     exact⟨by rw[HZ.out] <;> rfl,bel3 HP.out.1 HG.out⟩
 ·have e1:(r.2.2 != 0)=true:=bne_iff_ne.2 (by omega)
  have e2:(r.2.2 != 11)=false:=bne_eq_false_iff_eq.2 hr;clear hr;go_wp2_with fail
  clear e1 e2;go_loopw [9,10] (fun s9 s10 wr=>∃ j:Nat,j<=2∧s9=.int .i64 (mis2 A k j)∧s10=.int .i64 j∧Hid (Below W.heap.size W wr)) (fun _ i _=>2-(intOf i).toNat)
  case atStart=>exact⟨0,by omega,rfl,rfl,G1.out⟩
  case round=>
   obtain⟨j,hj,rfl,rfl,HG⟩:=hrel;clear G1;have mb:=Z14 A k j;have d0:=(HG.out.cell (p:=⟨w.heap.size,0,none⟩) (by show w.heap.size<W.heap.size; rw[HP.out.2.2.1]; omega)).trans HP.out.2.2.2.1
   by_cases hlt:j<2
   ·have hlt':(j:Int)<=1:=by omega
    have hlt2:(j:Int)<3:=by omega
    have t0:=(HP.out.2.2.2.2.below HG.out).c0 j (by omega)
    have t1:=(HP.out.2.2.2.2.below HG.out).c1 j (by omega)
    have C:=hid (C2.out j (by omega) wr HG.out)
    have HM:Hid (mis2 A k (j+1)=mis2 A k j+(if (dvRead (dev A j) k k).2=0 then 0 else 1)):=rfl
    generalize dvRead (dev A j) k k=r1 at C HM;obtain⟨M1,hM1⟩:∃ M1,mis2 A k (j+1)=M1:=⟨_,rfl⟩;have HM1:=hid hM1;rw[hM1] at HM;clear hM1;generalize mis2 A k j=M at mb HM
    by_cases e:r1.2=0
    ·have e':(r1.2 != 0)=false:=bne_eq_false_iff_eq.2 e
     have HN:Hid (M1=M):=by show _=_; rw[HM.out,if_pos e]; omega
     clear e;go_wp2_with fail
     refine C.out.mono ?_
     rintro _ w2 ⟨rfl,g2⟩;have G2:=hid (bel3 HG.out g2);clear g2 C d0 t0 t1;go_wp2
     go_roundw
     case rel=>exact⟨j+1,by omega,by rw[HM1.out,HN.out] <;> rfl,by go_num,G2.out⟩
     case measure=>simp[intOf]; omega
    ·have e':(r1.2 != 0)=true:=bne_iff_ne.2 e
     have HN:Hid (M1=M+1):=by show _=_; rw[HM.out,if_neg e]
     clear e;go_wp2_with fail
     refine C.out.mono ?_
     rintro _ w2 ⟨rfl,g2⟩;have G2:=hid (bel3 HG.out g2);clear g2 C d0 t0 t1;go_wp2
     go_roundw
     case rel=>exact⟨j+1,by omega,by rw[HM1.out,HN.out] <;> rfl,by go_num,G2.out⟩
     case measure=>simp[intOf]; omega
   ·obtain rfl:j=2:=by omega
    have hnl:¬ ((2:Nat):Int)<=1:=by decide
    clear hlt hj;generalize mis2 A k 2=M at mb HB
    by_cases h2:k % 2=0
    ·have e:((k:Int).tmod 2==0)=true:=by rw[beq_iff_eq,Int.tmod_eq_emod_of_nonneg (by omega)]; omega
     go_wp2_with fail
     refine (C3.out _ HG.out).mono ?_
     rintro _ w2 ⟨rfl,g2⟩;have G2:=hid (bel3 HP.out.1 (bel3 HG.out g2));clear g2 d0;cases R with
     | true=>
      have HZ:Hid (Z=M):=by show _=_; rw[HB.out,if_neg (by simp)]; omega
      clear HB;go_wp2
      go_ret2
      exact⟨by rw[HZ.out] <;> rfl,G2.out⟩
     | false=>
      have HZ:Hid (Z=M+1):=by show _=_; rw[HB.out,if_pos ⟨h2,rfl⟩]
      clear HB;go_wp2
      go_ret2
      exact⟨by rw[HZ.out] <;> rfl,G2.out⟩
    ·have e:((k:Int).tmod 2==0)=false:=by rw[beq_eq_false_iff_ne,Int.tmod_eq_emod_of_nonneg (by omega)]; omega
     have HZ:Hid (Z=M):=by show _=_; rw[HB.out,if_neg (fun x=>h2 x.1)]; omega
     clear HB;go_wp2
     go_ret2
     exact⟨by rw[HZ.out] <;> rfl,bel3 HP.out.1 HG.out⟩
theorem Z6G (a:Option Addr) (n c:Nat) (i:Int) (A:Ar) (w:World) (H:Z5 w a n A):
  Calls Tryz.prog 58 #[.agg #[.slice a n c],.int .i64 i] w fun e w'=>e=.returned (.tuple #[.int .i64 (Tq A i).1,.int .i64 (Tq A i).2])∧Below w.heap.size w w':=by
 by_cases ht:arTouch A i=0
 ·obtain⟨hm,h0,h1⟩:=Xh A i ht
  obtain⟨k,rfl⟩:∃ k:Nat,i=k:=⟨i.toNat,by omega⟩
  obtain⟨rfl,b,o,h,rfl,HX⟩:=Z8 H hm;rw[Tq,if_pos ht,show (k:Int).toNat=k by omega]
  exact Z7Y b o c h A k w HX hm (by omega)
 ·obtain⟨W,hW⟩:∃ W,W=w.alloc (.cells #[.slice a n c] 26):=⟨_,rfl⟩
  have hB:Below w.heap.size w W:=by rw[hW]; go_grown
  have C1:=Xo a n c i A W (H.below hB);have ht2:arTouch A i≠11:=by unfold arTouch; split; split; decide; decide; decide
  rw[arRead,if_neg ht,hW] at C1;rw[Tq,if_neg ht];generalize arTouch A i=t at C1 ht ht2;have e1:(t != 0)=true:=bne_iff_ne.2 ht;have e2:(t != 11)=true:=bne_iff_ne.2 ht2;have H1:=hid C1;have HP:=hid (And.intro hB hW);clear C1 hB hW H ht ht2;go_enter Tryz.func58,Tryz.ntmps58
  go_wp2_with fail
  refine H1.out.mono ?_
  rintro _ w1 ⟨rfl,g1⟩;rw[<- HP.out.2] at g1;go_wp2
  go_ret2
  exact⟨rfl,bel3 HP.out.1 g1⟩
end Go.Proofs.YtdnacpbgodooaaaGreatDoor
namespace Go.Proofs.YtdnacpbgodooaaaGreatDoor
open Go.RowKit Go.Lib
theorem Z7E (A:Ar) (d:Nat) (p no:Int) (s:List UInt8) (h:tellsD (dev A d) p no s=true):renA A d p no s=A∧renN A d p no s=0:=by
 unfold renA renN; rw[if_pos h,if_pos h]; exact⟨rfl,rfl⟩
theorem ren_no (A:Ar) (d:Nat) (p no:Int) (s:List UInt8) (h:tellsD (dev A d) p no s=false):renA A d p no s=A.set d (dvWrite (dev A d) p no s).1∧renN A d p no s=1:=by
 unfold renA renN; rw[h,if_neg (by decide),if_neg (by decide)]; exact⟨rfl,rfl⟩
def OutR (w:World) (b o:Nat) (A:Ar) (m:Int) (e:Ending) (w':World):Prop:=e=.returned (.int .i64 m)∧w.grownBy w' (some b)∧∃ h',Z4 w' b o 3 h' A
theorem TF (b o c:Nat) (h:Nat->Hd) (A:Ar) (d:Nat) (p no:Int) (s:List UInt8) (w:World) (hd:d<3) (H:Z4 w b o 3 h A):
  Calls Tryz.prog 164 #[.agg #[.slice (some ⟨b,o,none⟩) 3 c],.int .i64 d,.int .i64 p,.int .i64 no,.string (str s)] w (OutR w b o (renA A d p no s) (renN A d p no s)):=by
 obtain⟨W,hW⟩:∃ W,W=w.alloc (.cells #[.slice (some ⟨b,o,none⟩) 3 c] 26):=⟨_,rfl⟩;have hB:Below w.heap.size w W:=by rw[hW]; go_grown
 have hz:W.heap.size=w.heap.size+1:=by rw[hW]; simp
 have c0:W.cell? ⟨w.heap.size,0,none⟩=some (.slice (some ⟨b,o,none⟩) 3 c):=by rw[hW]; simp
 have HX:=H.below hB;have t0:=HX.arr.c0 d hd;have t1:=HX.arr.c1 d hd;have C1:=TD (h d).x (h d).p (h d).c (h d).y (h d).q (h d).d p no s (dev A d) W (HX.arr.dv d hd);have C2:=hid (fun wx (g:Below W.heap.size W wx)=>WZ (h d).x (h d).p (h d).c (h d).y (h d).q (h d).d p no (str s) (dev A d) wx ((HX.below g).arr.dv d hd))
 rw[str_list] at C2;have HT:=hid (And.intro t0 t1);rw[hW] at C1 t0 t1;have H1:=hid C1;have HP:=hid (And.intro hB (And.intro hW (And.intro hz (And.intro c0 (And.intro HX HX.arr.lt)))));have hd':(d:Int)<3:=by omega
 cases ht:tellsD (dev A d) p no s with
 | true=>
  obtain⟨e1,e2⟩:=Z7E A d p no s ht;rw[e1,e2];rw[ht] at H1;have HK:=hid H;clear C1 hB hW hz c0 HX H ht e1 e2;go_enter Tryz.func164,Tryz.ntmps164
  go_wp2_with fail
  refine H1.out.mono ?_
  rintro _ w1 ⟨rfl,g1⟩;rw[<- HP.out.2.1] at g1;go_wp2
  go_ret
  exact⟨rfl,ZC (bel3 HP.out.1 g1),h,HK.out.below (bel3 HP.out.1 g1)⟩
 | false=>
  obtain⟨e1,e2⟩:=ren_no A d p no s ht;rw[e1,e2];rw[ht] at H1;generalize dvWrite (dev A d) p no s=r at C2;have HD:=hid hd;clear C1 hB hW hz c0 HX H ht e1 e2 hd;go_enter Tryz.func164,Tryz.ntmps164
  go_wp2_with fail
  refine H1.out.mono ?_
  rintro _ w1 ⟨rfl,g1⟩;rw[<- HP.out.2.1] at g1;clear t0 t1;have d0:=(g1.cell (p:=⟨w.heap.size,0,none⟩) (by show w.heap.size<W.heap.size; rw[HP.out.2.2.1]; omega)).trans HP.out.2.2.2.1
  have t0:=(g1.cell (p:=⟨b,o+d*2,none⟩) HP.out.2.2.2.2.2).trans HT.out.1;have t1:=(g1.cell (p:=⟨b,o+d*2+1,none⟩) HP.out.2.2.2.2.2).trans HT.out.2;have G1:=hid g1;clear g1;go_wp2_with fail
  go_region_with (go_at_call 197; refine (C2.out _ G1.out.drew).mono ?_; rintro _ w4 ⟨x,p,e,y,q,f,rfl,hD,hF,g4⟩; (have g5:=undrew g4); (have Z:=stored (c:=e) (d:=f) (HP.out.2.2.2.2.1.below G1.out) HD.out g5 hD); (have z0:w4.cell? ⟨b,o+d*2,none⟩=some (.slice (h d).x (h d).p (h d).c):=Z.1.1); (have z1:w4.cell? ⟨b,o+d*2+1,none⟩=some (.slice (h d).y (h d).q (h d).d):=Z.1.2.1); (have z2:w4.frozen? ⟨b,o+d*2,none⟩=false:=Z.1.2.2.1); (have z3:w4.frozen? ⟨b,o+d*2+1,none⟩=false:=Z.1.2.2.2); (have zb:=(g5.cell (p:=⟨w.heap.size,0,none⟩) (by show w.heap.size<w1.heap.size; have:=G1.out.size; rw[HP.out.2.2.1] at this; omega)).trans d0); (have HZ:=hid Z.2); clear g4 g5 hD hF Z)
  all_goals go_wp2
  all_goals go_ret
  all_goals exact⟨rfl,ZB (ZC (bel3 HP.out.1 G1.out)) HZ.out.2,HZ.out.1⟩
end Go.Proofs.YtdnacpbgodooaaaGreatDoor
namespace Go.Proofs.YtdnacpbgodooaaaGreatDoor
open Go.RowKit Go.Lib
def Z3H (w:World) (r:Ar × Int × Int) (e:Ending) (w':World):Prop:=
 (∃ a n c,e=.returned (.tuple #[.agg #[.slice a n c],.int .i64 r.2.1,.int .i64 r.2.2])∧((n=0∧r.1=[]∧a=none)∨∃ b h,a=some ⟨b,0,none⟩∧w.heap.size<=b∧Z4 w' b 0 n h r.1))∧Below w.heap.size w w'
theorem Z3a {w w':World} {x:Int} (g:Below w.heap.size w w'):Z3H w ([],0,x) (.returned (.tuple #[.agg #[.slice none 0 0],.int .i64 0,.int .i64 x])) w':=⟨⟨none,0,0,rfl,.inl ⟨rfl,rfl,rfl⟩⟩,g⟩
theorem WrI.outHe {w W:World} {pr pc b cc:Nat} {A:Ar} (H:WrI w pr pc b cc A W) (m:Int):Z3H w (A,m,0) (.returned (.tuple #[.agg #[.slice (some ⟨b,0,none⟩) 3 cc],.int .i64 m,.int .i64 0])) (W.setCell ⟨pr,0,none⟩ (.slice (some ⟨b,0,none⟩) 3 cc)):=by
 obtain⟨h,hh⟩:=H.fr;exact⟨⟨_,3,cc,rfl,.inr ⟨b,h,rfl,H.ge.2,hh.box H.ne.1 H.rc _⟩⟩,H.below.setCell (p:=⟨pr,0,none⟩) H.ge.1 _⟩
def hstep (A:Ar) (k:Nat):Nat->Ar
 | 0=>A
 | j+1=>renA (hstep A k j) j k k (tell A k).1
def hcnt (A:Ar) (k:Nat):Nat->Int
 | 0=>0
 | j+1=>hcnt A k j+renN (hstep A k j) j k k (tell A k).1
theorem Z0O (A:Ar) (d:Nat) (p no:Int) (s:List UInt8):0<=renN A d p no s∧renN A d p no s<=1:=by unfold renN; split <;> omega
theorem Z4Y (A:Ar) (k:Nat):∀ j:Nat,0<=hcnt A k j∧hcnt A k j<=j
 | 0=>⟨Int.le_refl _,Int.le_refl _⟩
 | j+1=>by
  have:=Z4Y A k j
  have:=Z0O (hstep A k j) j k k (tell A k).1
  unfold hcnt;omega
theorem Z4W (A:Ar) (k:Nat):hstep A k 2=heal1 A k:=by
 have e:hstep A k 1=heal0 A k:=(Qv A k).symm;show renA (hstep A k 1) 1 k k _=_
 rw[e]; exact (Z29 A k).symm
theorem Z6F (A:Ar) (k:Nat):hcnt A k 2=renN A 0 k k (tell A k).1+renN (heal0 A k) 1 k k (tell A k).1:=by
 have e:hstep A k 1=heal0 A k:=(Qv A k).symm;show (0+renN A 0 k k _)+renN (hstep A k 1) 1 k k _=_
 rw[e,Int.zero_add]
theorem Z3i (a:Option Addr) (n c:Nat) (i:Int) (A:Ar) (w:World) (H:Z5 w a n A) (ht:(arRead A i).2.2≠0):
  Calls Tryz.prog 111 #[.agg #[.slice a n c],.int .i64 i] w (Z3H w ([],0,(arRead A i).2.2)):=by
 obtain⟨W,hW⟩:∃ W,W=(w.alloc (.cells #[.slice a n c] 26)).alloc (.cells #[.slice none 0 0] 26):=⟨_,rfl⟩;have hB:Below w.heap.size w W:=by rw[hW]; go_grown
 have hz:W.heap.size=w.heap.size+2:=by rw[hW]; simp
 have rc:W.cell? ⟨w.heap.size+1,0,none⟩=some (.slice none 0 0):=by rw[hW]; simp[go_sem]
 have rf:W.frozen? ⟨w.heap.size+1,0,none⟩=false:=by rw[hW]; simp[go_sem]
 have HT:=hid (Xo a n c i A W (H.below hB));have HP:=hid (And.intro hB (And.intro hz (And.intro rc rf)));have HK:=hid (fun x w' (g:Below w.heap.size w w')=>Z3a (x:=x) g)
 generalize arRead A i=r at HT ht;have ht':(r.2.2 != 0)=true:=bne_iff_ne.2 ht;rw[hW] at HT;have HE:=hid hW;clear ht hB hz rc rf H hW;go_enter Tryz.func111,Tryz.ntmps111
 go_wp2_with fail
 refine HT.out.mono ?_
 rintro _ w1 ⟨rfl,g1⟩;rw[<- HE.out] at g1;have r1:=(g1.cell (p:=⟨w.heap.size+1,0,none⟩) (by show w.heap.size+1<W.heap.size; rw[HP.out.2.1]; omega)).trans HP.out.2.2.1
 have r2:=(g1.frozen (p:=⟨w.heap.size+1,0,none⟩) (by show w.heap.size+1<W.heap.size; rw[HP.out.2.1]; omega)).trans HP.out.2.2.2
 have y0:=World.cell?_setCell_same w1 ⟨w.heap.size+1,0,none⟩ (.slice none 0 0) r1
 have G1:=hid ((bel3 HP.out.1 g1).setCell (p:=⟨w.heap.size+1,0,none⟩) (by show w.heap.size<=w.heap.size+1; omega) (.slice none 0 0))
 clear g1;go_wp2
 refine bodyPost_ret (v:=.tuple #[.agg #[.slice none 0 0],.int .i64 0,.int .i64 r.2.2]) (by simp[results,Tryz.results111,go_sem,y0]) rfl ?_
 exact HK.out _ _ G1.out
theorem Z3h (b o c:Nat) (h:Nat->Hd) (k:Nat) (A:Ar) (w:World) (H:Arr w b o 3 h A) (hm:Z2 A=true) (hk:k<many A) (ht:(tell A k).2.2=0):
  Calls Tryz.prog 111 #[.agg #[.slice (some ⟨b,o,none⟩) 3 c],.int .i64 k] w (Z3H w (heal2 A k,healN A k,0)):=by
 obtain⟨W,hW⟩:∃ W,W=(w.alloc (.cells #[.slice (some ⟨b,o,none⟩) 3 c] 26)).alloc (.cells #[.slice none 0 0] 26):=⟨_,rfl⟩;have hB:Below w.heap.size w W:=by rw[hW]; go_grown
 have hz:W.heap.size=w.heap.size+2:=by rw[hW]; simp
 have rc:W.cell? ⟨w.heap.size+1,0,none⟩=some (.slice none 0 0):=by rw[hW]; simp[go_sem]
 have rf:W.frozen? ⟨w.heap.size+1,0,none⟩=false:=by rw[hW]; simp[go_sem]
 have c0:W.cell? ⟨w.heap.size,0,none⟩=some (.slice (some ⟨b,o,none⟩) 3 c):=by rw[hW]; simp[go_sem]
 have hmm:=(arMay_iff A).1 hm;have hk64:k<=64:=by omega
 have HA:∀ wx,Below W.heap.size W wx->Z5 wx (some ⟨b,o,none⟩) 3 A:=fun wx g=>.inr ⟨b,o,h,rfl,(H.below hB).below g⟩
 have HT:=hid (Xo (some ⟨b,o,none⟩) 3 c k A W (HA W (Below.refl _ _)));rw[Zl A k hm hk,hW] at HT;have CC:=hid (fun wx (g:Below W.heap.size W wx)=>XI (some ⟨b,o,none⟩) 3 c A wx (HA wx g) (ZN A hm))
 have CN:=hid (fun wx=>Yf k wx (by omega))
 have h1:=Vi A hm k hk ht;have HS2:=hid (Z4W A k);have HQ:=hid (And.intro h1.2.1 (show k<many (heal1 A k) by rw[h1.2.2.1]; exact hk))
 have HX:=hid (And.intro (Z28 A hm k hk ht) ((Z6E A k).trans (by rw[<- Z6F])))
 have HJ:Hid (hstep A k 0=A∧hcnt A k 0=0∧∀ j,hstep A k (j+1)=renA (hstep A k j) j k k (tell A k).1∧hcnt A k (j+1)=hcnt A k j+renN (hstep A k j) j k k (tell A k).1):=⟨rfl,rfl,fun j=>⟨rfl,rfl⟩⟩
 have HC:=hid (Z4Y A k);generalize heal2 A k=T at HX;generalize healN A k=TN at HX;generalize heal1 A k=A2 at HS2 HQ HX;generalize hstep A k=st at HS2 HJ;generalize hcnt A k=ct at HX HJ HC;have ht':((tell A k).2.2 != 0)=false:=bne_eq_false_iff_eq.2 ht;generalize tell A k=r at HT HJ ht';have HP:=hid (And.intro hB (And.intro hz (And.intro c0 (And.intro rc rf))));have HE:=hid hW;clear hB hz rc rf c0 H hW HA hm hk hmm ht h1;go_enter Tryz.func111,Tryz.ntmps111
 go_wp2_with fail
 refine HT.out.mono ?_
 rintro _ w1 ⟨rfl,g1⟩;rw[<- HE.out] at g1;have d0:=(g1.cell (p:=⟨w.heap.size,0,none⟩) (by show w.heap.size<W.heap.size; rw[HP.out.2.1]; omega)).trans HP.out.2.2.1
 have G1:=hid g1;clear g1 HT HE;go_wp2_with fail
 clear ht';refine (CC.out _ G1.out).mono ?_
 rintro _ w3 ⟨a3,c3,rfl,h3,g3⟩
 rcases h3 with ⟨h30,_⟩ | ⟨b3,hd3,rfl,hb3,hf3⟩
 ·omega
 have hst:=XJ (pr:=w.heap.size+1) (cc:=c3) HP.out.1 (by omega) (by rw[HP.out.2.1]; omega) HP.out.2.2.2.1 HP.out.2.2.2.2 (bel3 G1.out g3) (Nat.le_trans G1.out.size hb3) hf3
 have S3:=hid hst;clear hst hf3 hb3 g3 d0 G1 CC;go_upto_region 5 with fail
 obtain⟨W3,hW3⟩:∃ W3,W3=w3.alloc (.cells #[.slice (some ⟨b3,0,none⟩) 3 c3] 26):=⟨_,rfl⟩;rw[<- hW3] at S3 ⊢;clear hW3;generalize w3.heap.size=pc at S3 ⊢;go_wp2_with fail
 go_loopw [11,12] (fun s11 s12 wr=>∃ j:Nat,j<=2∧s11=.int .i64 (ct j)∧s12=.int .i64 j∧Hid (WrI w (w.heap.size+1) pc b3 c3 (st j) wr)) (fun _ i _=>2-(intOf i).toNat)
 case atStart=>exact⟨0,by omega,by rw[HJ.out.2.1],rfl,by rw[HJ.out.1]; exact S3.out⟩
 case round=>
  obtain⟨j,hj,rfl,rfl,S4⟩:=hrel;clear S3;have d1:=S4.out.cb;have mb:=HC.out j
  by_cases hlt:j<2
  ·have hlt':(j:Int)<=1:=by omega
   obtain⟨h4,f4⟩:=S4.out.fr;have CW:=hid (TF b3 0 c3 h4 (st j) j k k r.1 wr (by omega) f4)
   have nb:=Z0O (st j) j k k r.1;have HN:=hid (HJ.out.2.2 j);generalize renN (st j) j k k r.1=N1 at CW nb HN;generalize renA (st j) j k k r.1=A1 at CW HN;generalize ct j=M at mb HN;clear f4;go_wp2_with fail
   refine CW.out.mono ?_
   rintro _ w5 ⟨rfl,g5,f5⟩;have S5:=hid (S4.out.grown g5 f5);clear g5 f5 CW d1 S4;go_wp2
   go_roundw
   case rel=>exact⟨j+1,by omega,by rw[HN.out.2] <;> rfl,by go_num,by rw[HN.out.1]; exact S5.out⟩
   case measure=>simp[intOf]; omega
  ·obtain rfl:j=2:=by omega
   have hnl:¬ ((2:Nat):Int)<=1:=by decide
   clear hlt hj;rw[HS2.out] at S4;obtain⟨h4,f4⟩:=S4.out.fr;have CP:=hid (Vh b3 0 c3 h4 A2 k wr f4.arr HQ.out.1 HQ.out.2);have HX2:Hid (T=(if known A2 k=true then renA A2 2 ((k / 2:Nat):Int) ((512+k / 2:Nat):Int) (parX A2 k) else A2)∧TN=ct 2+(if known A2 k=true then renN A2 2 ((k / 2:Nat):Int) ((512+k / 2:Nat):Int) (parX A2 k) else 0)):=by
    refine⟨HX.out.1.trans ?_,HX.out.2.trans ?_⟩
    ·unfold parX; split <;> rfl
    ·unfold parX; split <;> rfl
   generalize parX A2 k=X at CP HX2;generalize ct 2=M at mb HX2;clear HX f4;cases hK:known A2 k with
   | false=>
    rw[hK] at CP HX2;clear hK;go_wp2_with fail
    refine CP.out.mono ?_
    rintro _ w5 ⟨rfl,g5⟩;have S5:=hid (S4.out.to g5);clear g5 d1 S4 CP;have d1:=S5.out.cb;have rc:=S5.out.rc;have rf:=S5.out.rf;have y0:=World.cell?_setCell_same w5 ⟨w.heap.size+1,0,none⟩ (.slice (some ⟨b3,0,none⟩) 3 c3) rc
    go_wp2
    refine bodyPost_ret (v:=.tuple #[.agg #[.slice (some ⟨b3,0,none⟩) 3 c3],.int .i64 M,.int .i64 0]) (by simp[results,Tryz.results111,go_sem,y0]) rfl ?_
    have e1:T=A2:=HX2.out.1;have e2:TN=M:=by have:=HX2.out.2; simpa using this
    rw[e1,e2];exact S5.out.outHe M
   | true=>
    rw[hK,if_pos rfl,if_pos rfl] at HX2;rw[hK] at CP;clear hK;go_wp2_with fail
    refine CP.out.mono ?_
    rintro _ w5 ⟨rfl,g5⟩;have S5:=hid (S4.out.to g5);clear g5 d1 S4 CP;have d1:=S5.out.cb;obtain⟨h5,f5⟩:=S5.out.fr;have CW:=hid (fun wx (g:Below w5.heap.size w5 wx)=>TF b3 0 c3 h5 A2 2 ((k / 2:Nat):Int) ((512+k / 2:Nat):Int) X wx (by omega) (f5.below g))
    have nb:=Z0O A2 2 ((k / 2:Nat):Int) ((512+k / 2:Nat):Int) X;have u1:IntKind.i64.wrap ((k:Int) / 2)=((k / 2:Nat):Int):=by rw[IntWalk.i64_in _ (by omega)]; omega
    generalize renN A2 2 ((k / 2:Nat):Int) ((512+k / 2:Nat):Int) X=N1 at CW nb HX2;generalize renA A2 2 ((k / 2:Nat):Int) ((512+k / 2:Nat):Int) X=A3 at CW HX2;generalize ((512+k / 2:Nat):Int)=R at CW CN;generalize ((k / 2:Nat):Int)=Q at CW u1;have u2:IntKind.i64.wrap (M+N1)=M+N1:=IntWalk.i64_in _ (by omega)
    clear f5;go_wp2_with fail
    go_region_held3 (fun w'=>w'.cell? ⟨pc,0,none⟩=some (.slice (some ⟨b3,0,none⟩) 3 c3)) (go_keep)
     (first | (go_at_call 166; refine (CN.out _).mono ?_; rintro _ w9 ⟨rfl,h9⟩; (have h8:=h9.symm); subst h8) | (go_at_call 164; refine (CW.out _ ((Below.refl _ w5).drew)).mono ?_; rintro _ w9 ⟨rfl,g9,f9⟩; (have S9:=hid (S5.out.drew.grown g9 f9)); (have j0:=S9.out.cb); clear g9 f9))
    all_goals have rc:=S9.out.rc
    all_goals have rf:=S9.out.rf
    all_goals have y0:=World.cell?_setCell_same w9 ⟨w.heap.size+1,0,none⟩ (.slice (some ⟨b3,0,none⟩) 3 c3) rc
    all_goals go_wp2
    all_goals refine bodyPost_ret (v:=.tuple #[.agg #[.slice (some ⟨b3,0,none⟩) 3 c3],.int .i64 (M+N1),.int .i64 0]) (by simp[results,Tryz.results111,go_sem,y0]) rfl ?_
    all_goals (rw[HX2.out.1,HX2.out.2]; exact S9.out.outHe (M+N1))
theorem Z17 (a:Option Addr) (n c:Nat) (i:Int) (A:Ar) (w:World) (H:Z5 w a n A):
  Calls Tryz.prog 111 #[.agg #[.slice a n c],.int .i64 i] w (Z3H w (arHeal A i)):=by
 unfold arHeal
 by_cases ht:(arRead A i).2.2=0
 ·rw[if_pos ht]
  have h0:arTouch A i=0:=by
   apply Classical.byContradiction
   intro h;rw[arRead,if_neg h] at ht;exact h ht
  obtain⟨hm,h0,h1⟩:=Xh A i h0;obtain⟨k,rfl⟩:∃ k:Nat,i=k:=⟨i.toNat,by omega⟩
  obtain⟨rfl,b,o,h,rfl,HX⟩:=Z8 H hm;rw[Zl A k hm (by omega)] at ht
  rw[show (k:Int).toNat=k by omega]
  exact Z3h b o c h k A w HX hm (by omega) ht
 ·rw[if_neg ht]
  exact Z3i a n c i A w H ht
end Go.Proofs.YtdnacpbgodooaaaGreatDoor
