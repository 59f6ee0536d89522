import Derived.Test.YtdnacpbgodooaaaGreatDoorHealC
import Derived.Test.YtdnacpbgodooaaaGreatDoorInts
set_option maxHeartbeats 1600000
set_option maxRecDepth 4000
namespace Go.Proofs.YtdnacpbgodooaaaGreatDoor
open Go.RowKit Go.Lib
theorem XV (b o c:Nat) (h:Nat->Hd) (A:Ar) (w:World) (H:Arr w b o 3 h A):
  Calls Tryz.prog 57 #[.agg #[.slice (some ⟨b,o,none⟩) 3 c]] w fun e w'=>e=.returned (.int .i64 (many A))∧Below w.heap.size w w':=by
 obtain⟨W,hW⟩:∃ W,W=w.alloc (.cells #[.slice (some ⟨b,o,none⟩) 3 c] 26):=⟨_,rfl⟩;have hB:Below w.heap.size w W:=by rw[hW]; go_grown
 obtain⟨⟨t0,_⟩,_⟩:=(H.below hB).three;rw[show many A=(h 0).p from (H.dv 0 (by omega)).sn.symm]
 have HP:=hid (And.intro hB hW);rw[hW] at t0;clear H hB hW;go_enter Tryz.func57,Tryz.ntmps57
 go_wp2
 go_ret
 exact⟨rfl,by rw[<- HP.out.2]; exact HP.out.1⟩
def Z4G (x:Int) (N:Nat):Int:=if x+1<N then x+1 else 0
def nextR (x r:Int) (N:Nat):Int:=if x+1<N then r else r+1
theorem Z0n (x r:Int) (N:Nat) (w:World) (h0:0<=x) (h1:x<N) (hN:N<=64) (r0:0<=r) (r1:r<=4294967296):
  Calls Tryz.prog 112 #[.agg #[.int .i64 x,.int .i64 r],.int .i64 N] w fun e w'=>e=.returned (.agg #[.int .i64 (Z4G x N),.int .i64 (nextR x r N)])∧Below w.heap.size w w':=by
 by_cases e:x+1<N
 ·rw[Z4G,nextR,if_pos e,if_pos e]
  have e':(x+1==(N:Int))=false:=by rw[beq_eq_false_iff_ne]; omega
  clear e;go_enter Tryz.func112,Tryz.ntmps112
  go_wp2
  refine bodyPost_ret (v:=.agg #[.int .i64 (x+1),.int .i64 r]) (by simp[results,Tryz.results112,go_sem]) rfl ?_
  exact⟨rfl,by go_grown⟩
 ·rw[Z4G,nextR,if_neg e,if_neg e]
  have e':(x+1==(N:Int))=true:=by rw[beq_iff_eq]; omega
  clear e;go_enter Tryz.func112,Tryz.ntmps112
  go_wp2
  refine bodyPost_ret (v:=.agg #[.int .i64 0,.int .i64 (r+1)]) (by simp[results,Tryz.results112,go_sem]) rfl ?_
  exact⟨rfl,by go_grown⟩
def stepChk (A:Ar) (x r m:Int):Int:=if Z2 A=true then (if (0<=x∧x<many A)∧0<=r∧r<=1073741824 then (if 0<=m∧m<=64 then 0 else 2) else 9) else 9
theorem Vt (a:Option Addr) (n c:Nat) (A:Ar) (x r m:Int) (w:World) (H:Z5 w a n A):
  Calls Tryz.prog 110 #[.agg #[.slice a n c],.agg #[.int .i64 x,.int .i64 r],.int .i64 m] w fun e w'=>e=.returned (.int .i64 (stepChk A x r m))∧Below w.heap.size w w':=by
 obtain⟨W,hW⟩:∃ W,W=(w.alloc (.cells #[.slice a n c] 26)).alloc (.cells #[.int .i64 x,.int .i64 r] 41):=⟨_,rfl⟩;have hB:Below w.heap.size w W:=by rw[hW]; go_grown
 have hz:W.heap.size=w.heap.size+2:=by rw[hW]; simp
 have c0:W.cell? ⟨w.heap.size,0,none⟩=some (.slice a n c):=by rw[hW]; simp[go_sem]
 have x0:W.cell? ⟨w.heap.size+1,0,none⟩=some (.int .i64 x):=by rw[hW]; simp[go_sem]
 have x1:W.cell? ⟨w.heap.size+1,1,none⟩=some (.int .i64 r):=by rw[hW]; simp[go_sem]
 have C1:=Xt a n c A W (H.below hB);rw[hW] at C1;unfold stepChk;cases hm:Z2 A with
 | false=>
  rw[XE A hm] at C1;have H1:=hid C1;have HP:=hid (And.intro hB hW);clear C1 hB hz c0 x0 x1 hW H hm;go_enter Tryz.func110,Tryz.ntmps110
  go_wp2_with fail
  refine H1.out.mono ?_
  rintro _ w1 ⟨rfl,g1⟩;rw[<- HP.out.2] at g1;go_wp2
  go_ret
  exact⟨rfl,bel3 HP.out.1 g1⟩
 | true=>
  rw[XQ A hm] at C1;rw[if_pos rfl];have hmm:=(arMay_iff A).1 hm;obtain⟨rfl,b,o,h,rfl,HX⟩:=Z8 H hm;have CS:=hid (fun wx (g:Below W.heap.size W wx)=>XV b o c h A wx ((HX.below hB).below g))
  have hN:many A<=64:=hmm.2.2.2.1;generalize many A=N at CS hN;have H1:=hid C1;have HP:=hid (And.intro hB (And.intro hW (And.intro hz (And.intro c0 (And.intro x0 x1)))));clear C1 hB hz c0 x0 x1 hW H hm HX hmm;obtain⟨B,hB⟩:∃ B:Bool,B=decide (x<0∨(N:Int)<=x∨r<0∨1073741824<r):=⟨_,rfl⟩;have HBB:=hid hB;clear hB;obtain⟨T,hT⟩:∃ T:Int,T=if (0<=x∧x<N)∧0<=r∧r<=1073741824 then (if 0<=m∧m<=64 then 0 else 2) else 9:=⟨_,rfl⟩
  rw[<- hT];have HT:=hid hT;clear hT;go_enter Tryz.func110,Tryz.ntmps110
  go_wp2_with fail
  refine H1.out.mono ?_
  rintro _ w1 ⟨rfl,g1⟩;rw[<- HP.out.2.1] at g1;have d0:=(g1.cell (p:=⟨w.heap.size,0,none⟩) (by show w.heap.size<W.heap.size; rw[HP.out.2.2.1]; omega)).trans HP.out.2.2.2.1
  have d1:=(g1.cell (p:=⟨w.heap.size+1,0,none⟩) (by show w.heap.size+1<W.heap.size; rw[HP.out.2.2.1]; omega)).trans HP.out.2.2.2.2.1
  have d2:=(g1.cell (p:=⟨w.heap.size+1,1,none⟩) (by show w.heap.size+1<W.heap.size; rw[HP.out.2.2.1]; omega)).trans HP.out.2.2.2.2.2
  have G1:=hid g1;clear g1 H1;go_upto_region 4 with fail
  go_cut [32] (fun s32 wx=>s32=.bool B∧Below W.heap.size W wx)
  case first=>
   by_cases h1:x<0
   ·have e1:decide (x<0)=true:=decide_eq_true h1
    have HBT:Hid (B=true):=by show _=_; rw[HBB.out]; exact decide_eq_true (by omega)
    go_quiet (fail)
    go_wp2_with fail
    go_meet
    exact⟨by rw[HBT.out] <;> rfl,below_drewN G1.out _⟩
   ·have e1:decide (x<0)=false:=decide_eq_false h1
    by_cases h2:x<N
    ·have e2:decide ((N:Int)<=x)=false:=decide_eq_false (by omega)
     by_cases h3:r<0
     ·have e3:decide (r<0)=true:=decide_eq_true h3
      have HBT:Hid (B=true):=by show _=_; rw[HBB.out]; exact decide_eq_true (by omega)
      first | go_region_with (go_at_call 57; refine (CS.out _ G1.out.drew).mono ?_; rintro _ w9 ⟨rfl,g9⟩; (have G9:=hid (bel3 G1.out.drew g9)); (have j1:=(G9.out.cell (p:=⟨w.heap.size+1,0,none⟩) (by show w.heap.size+1<W.heap.size; rw[HP.out.2.2.1]; omega)).trans HP.out.2.2.2.2.1); (have j2:=(G9.out.cell (p:=⟨w.heap.size+1,1,none⟩) (by show w.heap.size+1<W.heap.size; rw[HP.out.2.2.1]; omega)).trans HP.out.2.2.2.2.2); clear g9) | fail
      all_goals (go_wp2_with fail; go_meet)
      all_goals exact⟨by rw[HBT.out] <;> rfl,G9.out⟩
     ·have e3:decide (r<0)=false:=decide_eq_false h3
      by_cases h4:1073741824<r
      ·have e4:decide (1073741824<r)=true:=decide_eq_true h4
       have HBT:Hid (B=true):=by show _=_; rw[HBB.out]; exact decide_eq_true (by omega)
       go_region_held3 (fun w'=>w'.cell? ⟨w.heap.size,0,none⟩=some (.slice (some ⟨b,o,none⟩) 3 c)∧w'.cell? ⟨w.heap.size+1,0,none⟩=some (.int .i64 x)∧w'.cell? ⟨w.heap.size+1,1,none⟩=some (.int .i64 r)) (go_keep) (first | (go_at_call 57; refine (CS.out _ G1.out.drew).mono ?_; rintro _ w9 ⟨rfl,g9⟩; (have G9:=hid (bel3 G1.out.drew g9)); (have j0:=(G9.out.cell (p:=⟨w.heap.size,0,none⟩) (by show w.heap.size<W.heap.size; rw[HP.out.2.2.1]; omega)).trans HP.out.2.2.2.1); (have j1:=(G9.out.cell (p:=⟨w.heap.size+1,0,none⟩) (by show w.heap.size+1<W.heap.size; rw[HP.out.2.2.1]; omega)).trans HP.out.2.2.2.2.1); (have j2:=(G9.out.cell (p:=⟨w.heap.size+1,1,none⟩) (by show w.heap.size+1<W.heap.size; rw[HP.out.2.2.1]; omega)).trans HP.out.2.2.2.2.2); clear g9))
       all_goals (go_wp2_with fail; go_meet)
       all_goals exact⟨by rw[HBT.out] <;> rfl,G9.out⟩
      ·have e4:decide (1073741824<r)=false:=decide_eq_false h4
       have HBT:Hid (B=false):=by show _=_; rw[HBB.out]; exact decide_eq_false (by omega)
       go_region_held3 (fun w'=>w'.cell? ⟨w.heap.size,0,none⟩=some (.slice (some ⟨b,o,none⟩) 3 c)∧w'.cell? ⟨w.heap.size+1,0,none⟩=some (.int .i64 x)∧w'.cell? ⟨w.heap.size+1,1,none⟩=some (.int .i64 r)) (go_keep) (first | (go_at_call 57; refine (CS.out _ G1.out.drew).mono ?_; rintro _ w9 ⟨rfl,g9⟩; (have G9:=hid (bel3 G1.out.drew g9)); (have j0:=(G9.out.cell (p:=⟨w.heap.size,0,none⟩) (by show w.heap.size<W.heap.size; rw[HP.out.2.2.1]; omega)).trans HP.out.2.2.2.1); (have j1:=(G9.out.cell (p:=⟨w.heap.size+1,0,none⟩) (by show w.heap.size+1<W.heap.size; rw[HP.out.2.2.1]; omega)).trans HP.out.2.2.2.2.1); (have j2:=(G9.out.cell (p:=⟨w.heap.size+1,1,none⟩) (by show w.heap.size+1<W.heap.size; rw[HP.out.2.2.1]; omega)).trans HP.out.2.2.2.2.2); clear g9))
       all_goals (go_wp2_with fail; go_meet)
       all_goals exact⟨by rw[HBT.out] <;> rfl,G9.out⟩
    ·have e2:decide ((N:Int)<=x)=true:=decide_eq_true (by omega)
     have HBT:Hid (B=true):=by show _=_; rw[HBB.out]; exact decide_eq_true (by omega)
     first | go_region_with (go_at_call 57; refine (CS.out _ G1.out.drew).mono ?_; rintro _ w9 ⟨rfl,g9⟩; (have G9:=hid (bel3 G1.out.drew g9)); (have j1:=(G9.out.cell (p:=⟨w.heap.size+1,0,none⟩) (by show w.heap.size+1<W.heap.size; rw[HP.out.2.2.1]; omega)).trans HP.out.2.2.2.2.1); (have j2:=(G9.out.cell (p:=⟨w.heap.size+1,1,none⟩) (by show w.heap.size+1<W.heap.size; rw[HP.out.2.2.1]; omega)).trans HP.out.2.2.2.2.2); clear g9) | fail
     all_goals (go_wp2_with fail; go_meet)
     all_goals exact⟨by rw[HBT.out] <;> rfl,G9.out⟩
  case rest=>
   obtain⟨rfl,hB⟩:=hcut;have GB:=hid (bel3 HP.out.1 hB);clear hB G1 d0 d1 d2;cases B with
   | true=>
    have HV:Hid (T=9):=by show _=_; rw[HT.out,if_neg (by have:=of_decide_eq_true HBB.out.symm; omega)]
    go_wp2
    go_ret
    exact⟨by rw[HV.out] <;> rfl,GB.out⟩
   | false=>
    have hno:=of_decide_eq_false HBB.out.symm;rw[if_pos (by omega)] at HT
    clear hno HBB
    by_cases h5:m<0
    ·have HV:Hid (T=2):=by show _=_; rw[HT.out,if_neg (by omega)]
     go_wp2
     go_ret
     exact⟨by rw[HV.out] <;> rfl,GB.out⟩
    ·by_cases h6:64<m
     ·have HV:Hid (T=2):=by show _=_; rw[HT.out,if_neg (by omega)]
      go_wp2
      go_ret
      exact⟨by rw[HV.out] <;> rfl,GB.out⟩
     ·have HV:Hid (T=0):=by show _=_; rw[HT.out,if_pos (by omega)]
      go_wp2
      go_ret
      exact⟨by rw[HV.out] <;> rfl,GB.out⟩
end Go.Proofs.YtdnacpbgodooaaaGreatDoor
namespace Go.Proofs.YtdnacpbgodooaaaGreatDoor
open Go.RowKit Go.Lib
def OutHl (w:World) (r:Int × List Nat × Int) (e:Ending) (w':World):Prop:=
 (∃ a n c,e=.returned (.tuple #[.int .i64 r.1,.slice a n c,.int .i64 r.2.2])∧ZP w' a n (ups r.2.1))∧Below w.heap.size w w'
def Z0t (w:World) (r:Int × List Nat × Int) (e:Ending) (w':World):Prop:=
 (∃ a n c,e=.returned (.tuple #[.int .i64 r.1,.slice a n c,.int .i64 r.2.2])∧ZP w' a n (ups r.2.1)∧NewS w.heap.size a n)∧Below w.heap.size w w'
theorem Z0t.out {w w':World} {r:Int × List Nat × Int} {e:Ending} (h:Z0t w r e w'):OutHl w r e w':=by
 obtain⟨⟨a,n,c,h1,h2,_⟩,h3⟩:=h;exact⟨⟨a,n,c,h1,h2⟩,h3⟩
theorem Z2z (A:Ar) (hm:Z2 A=true) (k:Nat) (hk:k<many A):Tq A k=(bad1 A k,0):=by
 have ht:arTouch A k=0:=by rw[arTouch,if_pos hm,if_pos ⟨by omega,by omega⟩]
 rw[Tq,if_pos ht,show (k:Int).toNat=k by omega]
theorem Z5H (A:Ar) (k:Nat):0<=bad1 A k∧bad1 A k<=3:=by unfold bad1; split <;> split <;> split <;> omega
structure HlI (W:World) (f:Nat->Bool) (k:Nat) (v:Value) (wr:World):Prop where
 own:Qj wr W.heap.size v (ups (goneOf k f))
 below:Below W.heap.size W wr
theorem Yh (n:Nat) (f:Nat->Bool):(goneOf n f).length<=n:=by
 have:=List.length_filter_le f (List.range n)
 rw[List.length_range] at this;exact this
theorem Tt (k:Nat) (f:Nat->Bool) (h:f k=true):ups (goneOf (k+1) f)=ups (goneOf k f)++[(k:Int)]:=by rw[UV,if_pos h,Z1B]
theorem WH (k:Nat) (f:Nat->Bool) (h:f k=false):ups (goneOf (k+1) f)=ups (goneOf k f):=by rw[UV,if_neg (by rw[h]; decide)]
theorem HlI.to {W wr w':World} {f:Nat->Bool} {k:Nat} {v:Value} (H:HlI W f k v wr) (g:Below wr.heap.size wr w'):HlI W f k v w':=⟨UL H.own g,bel3 H.below g⟩
theorem HlI.skip {W wr:World} {f:Nat->Bool} {k:Nat} {v:Value} (H:HlI W f k v wr) (h:f k=false):HlI W f (k+1) v wr:=⟨by rw[WH k f h]; exact H.own,H.below⟩
theorem HlI.put {W wr w':World} {f:Nat->Bool} {k:Nat} {v v':Value} (H:HlI W f k v wr) (h:f k=true) (ho:Qj w' W.heap.size v' (ups (goneOf k f)++[(k:Int)])) (g:wr.grownBy w' v.ownBlock):HlI W f (k+1) v' w':=
 ⟨by rw[Tt k f h]; exact ho,H.below.grown g H.below.size (fun b hb=>(World.ownsRow.lt H.own b hb).1)⟩
theorem HlI.out {w W wr:World} {f:Nat->Bool} {n:Nat} {v:Value} (H:HlI W f n v wr) (hn:n<=64) (hB:Below w.heap.size w W) (m:Int):Z0t w (m,goneOf n f,0) (.returned (.tuple #[.int .i64 m,v,.int .i64 0])) wr:=by
 obtain⟨a,k,c,rfl,hI⟩:=Qi H.own (by rw[Xp]; have:=Yh n f; omega)
 exact⟨⟨a,k,c,rfl,hI,(Z1W H.own).less hB.size⟩,bel3 hB H.below⟩
theorem Uf (w:World) (n:Int) (t:TypeId):(w.alloc (.cells #[.int .i64 n] t)).cell? ⟨w.heap.size,0,none⟩=some (.int .i64 n):=by simp[go_sem]
theorem Z3j (a:Option Addr) (n c:Nat) (A:Ar) (w:World) (H:Z5 w a n A):
  Calls Tryz.prog 27 #[.agg #[.slice a n c]] w (Z0t w (arHealth A)):=by
 obtain⟨W,hW⟩:∃ W,W=w.alloc (.cells #[.slice a n c] 26):=⟨_,rfl⟩;have hB:Below w.heap.size w W:=by rw[hW]; go_grown
 have hz:W.heap.size=w.heap.size+1:=by rw[hW]; simp
 have c0:W.cell? ⟨w.heap.size,0,none⟩=some (.slice a n c):=by rw[hW]; simp
 have C1:=Xt a n c A W (H.below hB);rw[hW] at C1;unfold arHealth;cases hm:Z2 A with
 | false=>
  rw[XE A hm] at C1;have H1:=hid C1;have HP:=hid (And.intro hB hW);clear C1 hB hz c0 hW H hm;go_enter Tryz.func27,Tryz.ntmps27
  go_wp2_with fail
  refine H1.out.mono ?_
  rintro _ w1 ⟨rfl,g1⟩;rw[<- HP.out.2] at g1;go_wp2
  go_ret3
  exact⟨⟨none,0,0,rfl,intsAt_none _ _,newS_nil _ _⟩,bel3 HP.out.1 g1⟩
 | true=>
  rw[XQ A hm] at C1;rw[if_pos rfl];have hmm:=(arMay_iff A).1 hm;have hN:many A<=64:=hmm.2.2.2.1;obtain⟨rfl,b,o,h,rfl,HX⟩:=Z8 H hm;have CS:=hid (fun wx (g:Below W.heap.size W wx)=>XV b o c h A wx ((HX.below hB).below g))
  have HA:∀ wx,Below W.heap.size W wx->Z5 wx (some ⟨b,o,none⟩) 3 A:=fun wx g=>.inr ⟨b,o,h,rfl,(HX.below hB).below g⟩
  have CB:=hid (fun (k:Nat) (hk:k<many A) wx (g:Below W.heap.size W wx)=>Z6G (some ⟨b,o,none⟩) 3 c k A wx (HA wx g))
  have CR:=hid (fun (k:Nat) wx (g:Below W.heap.size W wx)=>Xo (some ⟨b,o,none⟩) 3 c k A wx (HA wx g))
  have BI:=hid (fun k hk=>Z2z A hm k hk)
  have H1:=hid C1;have HP:=hid (And.intro hB (And.intro hW (And.intro hz c0)));clear C1 hB hz c0 hW H hm HX hmm HA;generalize many A=N at CS CB BI hN;go_enter Tryz.func27,Tryz.ntmps27
  go_wp2_with fail
  refine H1.out.mono ?_
  rintro _ w1 ⟨rfl,g1⟩;rw[<- HP.out.2.1] at g1;have d0:=(g1.cell (p:=⟨w.heap.size,0,none⟩) (by show w.heap.size<W.heap.size; rw[HP.out.2.2.1]; omega)).trans HP.out.2.2.2
  have G1:=hid g1;clear g1 H1;go_wp2_with fail
  refine (CS.out _ G1.out).mono ?_
  rintro _ w2 ⟨rfl,g2⟩;have G2:=hid (bel3 G1.out g2);clear g2 G1 CS d0;go_wp2_with fail
  go_loopw [6,7,21] (fun s6 v s21 wr=>∃ k:Nat,k<=N∧s6=.int .i64 (badN A k)∧s21=.int .i64 k∧Hid (HlI W (Ye A) k v wr)) (fun _ _ i _=>N-(intOf i).toNat)
  case atStart=>exact⟨0,Nat.zero_le _,rfl,rfl,⟨ownsI_nil _ _,G2.out⟩⟩
  case round=>
   obtain⟨k,hk,rfl,rfl,HI⟩:=hrel;clear G2;have bb:=Z1u A k
   by_cases hlt:k<N
   ·have hlt':(k:Int)<N:=by omega
    have d0:=(HI.out.below.cell (p:=⟨w.heap.size,0,none⟩) (by show w.heap.size<W.heap.size; rw[HP.out.2.2.1]; omega)).trans HP.out.2.2.2
    have C2:=hid (CB.out k hlt wr HI.out.below);rw[BI.out k hlt] at C2;have b1:=Z5H A k;have HM:Hid (badN A (k+1)=badN A k+bad1 A k):=rfl;obtain⟨M1,hM1⟩:∃ M1,badN A (k+1)=M1:=⟨_,rfl⟩;have HM1:=hid hM1;rw[hM1] at HM;clear hM1;generalize badN A k=M at bb HM;generalize bad1 A k=E at b1 HM C2;go_wp2_with fail
    refine C2.out.mono ?_
    rintro _ w3 ⟨rfl,g3⟩;have I3:=hid (HI.out.to g3);clear g3 C2 d0;have d0:=(I3.out.below.cell (p:=⟨w.heap.size,0,none⟩) (by show w.heap.size<W.heap.size; rw[HP.out.2.2.1]; omega)).trans HP.out.2.2.2
    have C3:=hid (CR.out k w3 I3.out.below);have HL:Hid (Ye A k=decide ((arRead A k).2.2≠0)):=rfl;generalize arRead A k=R at C3 HL;go_wp2_with fail
    refine C3.out.mono ?_
    rintro _ w4 ⟨rfl,g4⟩;have I4:=hid (I3.out.to g4);clear g4 C3 d0 I3 HI
    by_cases e:R.2.2=0
    ·have e':(R.2.2 != 0)=false:=bne_eq_false_iff_eq.2 e
     have HF:Hid (Ye A k=false):=by show _=_; rw[HL.out]; exact decide_eq_false (fun h=>h e)
     clear e;go_wp2
     go_roundw
     case rel=>exact⟨k+1,by omega,by rw[HM1.out,HM.out] <;> rfl,by go_num,I4.out.skip HF.out⟩
     case measure=>simp[intOf]; omega
    ·have e':(R.2.2 != 0)=true:=bne_iff_ne.2 e
     have HF:Hid (Ye A k=true):=by show _=_; rw[HL.out]; exact decide_eq_true e
     clear e;have I5:=hid (I4.out.to ((Below.refl _ w4).alloc (Nat.le_refl _) (.cells #[.int .i64 (k:Int)] 3)));go_wp2_with (at_builtin; (refine WG _ rfl (.tmp 42) (.tmp 44) rfl W.heap.size u7 (ups (goneOf k (Ye A))) (k:Int) rfl I5.out.own ⟨w4.heap.size,0,none⟩ rfl (Uf w4 k 3) (by rw[Xp]; have:=Yh k (Ye A); omega) I5.out.below.size ?_; intro g6 m6 cap6 w6 hm6 hown6 hgrow6; (have J6:=hid (I5.out.put HF.out hown6 hgrow6)); clear hown6 hgrow6 hm6))
     go_roundw
     case rel=>exact⟨k+1,by omega,by rw[HM1.out,HM.out] <;> rfl,by go_num,J6.out⟩
     case measure=>simp[intOf]; omega
   ·have hlt':¬ (k:Int)<N:=by omega
    obtain rfl:k=N:=by omega
    clear hlt hk;have HO:=hid (fun m=>HI.out.out hN HP.out.1 m)
    obtain⟨M,hM⟩:∃ M,badN A k=M:=⟨_,rfl⟩;have HE:=hid hM;rw[hM] at bb;rw[hM];clear HI hM;go_wp2
    go_ret3
    rw[HE.out];exact HO.out M
end Go.Proofs.YtdnacpbgodooaaaGreatDoor
