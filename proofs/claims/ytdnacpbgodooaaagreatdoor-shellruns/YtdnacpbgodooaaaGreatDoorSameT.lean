import Derived.BigQuiet
import Derived.Test.YtdnacpbgodooaaaGreatDoorMem2
import Derived.Deep.RegionHeld3
set_option maxHeartbeats 1600000
set_option maxRecDepth 4000
namespace Go.Proofs.YtdnacpbgodooaaaGreatDoor
open Go.RowKit Go.Lib
theorem Z0D (a:Option Addr) (n c:Nat) (a':Option Addr) (m c':Nat) (b:Option Addr) (d:Nat) (b':Option Addr) (d':Nat) (D:Dv) (w:World) (h:Zc w a n a' m D) (h2:Zc w b n b' m D):
  Calls Tryz.prog 14 #[.agg #[.slice a n c,.slice a' m c'],.agg #[.slice b n d,.slice b' m d']] w fun e w'=>e=.returned (.bool true)∧Below w.heap.size w w':=by
 obtain⟨W,hW⟩:∃ W,W=(w.alloc (.cells #[.slice a n c,.slice a' m c'] 56)).alloc (.cells #[.slice b n d,.slice b' m d'] 56):=⟨_,rfl⟩;have hB:Below w.heap.size w W:=by rw[hW]; go_grown
 have c1:W.cell? ⟨w.heap.size,0,none⟩=some (.slice a n c):=by rw[hW]; simp
 have c2:W.cell? ⟨w.heap.size,1,none⟩=some (.slice a' m c'):=by rw[hW]; simp
 have c3:W.cell? ⟨w.heap.size+1,0,none⟩=some (.slice b n d):=by rw[hW]; simp
 have c4:W.cell? ⟨w.heap.size+1,1,none⟩=some (.slice b' m d'):=by rw[hW]; simp
 have H:=hid (And.intro (h.below hB) (h2.below hB));have HC:=hid (And.intro c1 (And.intro c2 (And.intro c3 c4)));have HB:=hid hB;have hn:=h.nb;have hm:=h.mb;unfold maxLen at hn hm;have n1:((n:Int) != n)=false:=bne_self_eq_false _;have n2:((m:Int) != m)=false:=bne_self_eq_false _;clear h h2 hB c1 c2 c3 c4;go_enter Tryz.func14,Tryz.ntmps14
 go_wp2_with fail
 rw[<- hW];clear hW n1 n2;go_loopw [5] (fun i wr=>∃ k q:Nat,k<=n∧i=.int .i64 k∧wr=W.drewN q) (fun i _=>n-(intOf i).toNat)
 case atStart=>exact⟨0,0,Nat.zero_le _,rfl,rfl⟩
 case round=>
  obtain⟨k,q,hk,rfl,rfl⟩:=hrel;obtain⟨c1,c2,c3,c4⟩:=HC.out
  by_cases hlt:k<n
  ·have hlt':(k:Int)<n:=by omega
   obtain⟨p,o,rfl,_,e1⟩:=H.out.1.sector k hlt;obtain⟨p2,o2,rfl,_,e2⟩:=H.out.2.sector k hlt;generalize sec D k=s at e1 e2;clear H HC c2 c4 HB;go_wp2_with fail
   go_quiet (fail)
   go_wp2
   go_roundw
   case rel=>exact⟨k+1,_,by omega,by go_num,rfl⟩
   case measure=>simp[intOf]; omega
  ·have hlt':¬ (k:Int)<n:=by omega
   clear hlt hk;go_wp2_with fail
   clear hlt' c1 c2 c3 c4;go_loopw [6] (fun i wr=>∃ k q:Nat,k<=m∧i=.int .i64 k∧wr=W.drewN q) (fun i _=>m-(intOf i).toNat)
   case atStart=>exact⟨0,q,Nat.zero_le _,rfl,rfl⟩
   case round=>
    obtain⟨k,q,hk,rfl,rfl⟩:=hrel;obtain⟨c1,c2,c3,c4⟩:=HC.out
    by_cases hlt:k<m
    ·have hlt':(k:Int)<m:=by omega
     obtain⟨p,o,rfl,_,e1⟩:=H.out.1.lost k hlt;obtain⟨p2,o2,rfl,_,e2⟩:=H.out.2.lost k hlt;generalize los D k=s at e1 e2;clear H HC c1 c3 HB;go_wp2_with fail
     go_quiet (fail)
     go_wp2
     go_roundw
     case rel=>exact⟨k+1,_,by omega,by go_num,rfl⟩
     case measure=>simp[intOf]; omega
    ·have hlt':¬ (k:Int)<m:=by omega
     go_wp2
     go_ret
     exact⟨rfl,below_drewN HB.out q⟩
end Go.Proofs.YtdnacpbgodooaaaGreatDoor
namespace Go.Proofs.YtdnacpbgodooaaaGreatDoor
open Go.RowKit Go.Lib
theorem Z0E (a:Option Addr) (n c:Nat) (b:Option Addr) (d:Nat) (A:Ar) (w:World) (h:Z5 w a n A) (h2:Z5 w b n A):
  Calls Tryz.prog 6 #[.agg #[.slice a n c],.agg #[.slice b n d]] w fun e w'=>e=.returned (.bool true)∧Below w.heap.size w w':=by
 obtain⟨W,hW⟩:∃ W,W=(w.alloc (.cells #[.slice a n c] 26)).alloc (.cells #[.slice b n d] 26):=⟨_,rfl⟩;have hB:Below w.heap.size w W:=by rw[hW]; go_grown
 have c1:W.cell? ⟨w.heap.size,0,none⟩=some (.slice a n c):=by rw[hW]; simp[go_sem]
 have c3:W.cell? ⟨w.heap.size+1,0,none⟩=some (.slice b n d):=by rw[hW]; simp[go_sem]
 have hz:W.heap.size=w.heap.size+2:=by rw[hW]; simp
 have H:=hid (And.intro (h.below hB) (h2.below hB));have HC:=hid (And.intro c1 (And.intro c3 (And.intro hz hB)));have hn:=h.nb;unfold maxLen at hn;have n1:((n:Int) != n)=false:=bne_self_eq_false _;clear h h2 hB c1 c3 hz;go_enter Tryz.func6,Tryz.ntmps6
 go_wp2_with fail
 rw[<- hW];clear hW n1;go_loopw [5] (fun i wr=>∃ k:Nat,k<=n∧i=.int .i64 k∧Hid (Below W.heap.size W wr)) (fun i _=>n-(intOf i).toNat)
 case atStart=>exact⟨0,Nat.zero_le _,rfl,Below.refl _ _⟩
 case round=>
  obtain⟨k,hk,rfl,HG⟩:=hrel;obtain⟨c1,c3,hz,_⟩:=HC.out;have L1:w.heap.size<W.heap.size:=by omega
  have L3:w.heap.size+1<W.heap.size:=by omega
  have e1:=(HG.out.cell (p:=⟨w.heap.size,0,none⟩) L1).trans c1;have e3:=(HG.out.cell (p:=⟨w.heap.size+1,0,none⟩) L3).trans c3;have LL:=hid (And.intro (Nat.lt_of_lt_of_le L1 HG.out.size) (Nat.lt_of_lt_of_le L3 HG.out.size));clear c1 c3 hz L1 L3
  by_cases hlt:k<n
  ·have hlt':(k:Int)<n:=by omega
   rcases H.out.1 with ⟨h0,_⟩ | ⟨b1,o1,u1,rfl,X1⟩
   ·omega
   rcases H.out.2 with ⟨h0,_⟩ | ⟨b2,o2,u2,rfl,X2⟩
   ·omega
   have Y1:=X1.below HG.out;have Y2:=X2.below HG.out;have a0:=Y1.c0 k hlt;have a1:=Y1.c1 k hlt;have a2:=Y2.c0 k hlt;have a3:=Y2.c1 k hlt;have D1:=Y1.dv k hlt;have D2:=Y2.dv k hlt;have HL:=hid (And.intro Y1.lt Y2.lt);clear X1 X2 Y1 Y2;generalize u1 k=v1 at a0 a1 D1;generalize u2 k=v2 at a2 a3 D2;obtain⟨x1,p1,q1,y1,r1,s1⟩:=v1;obtain⟨x2,p2,q2,y2,r2,s2⟩:=v2;obtain rfl:p2=p1:=D2.sn.trans D1.sn.symm;obtain rfl:r2=r1:=D2.sm.trans D1.sm.symm;have C:=hid (fun wx (g:Below wr.heap.size wr wx)=>Z0D x1 p2 q1 y1 r2 s1 x2 q2 y2 s2 (dev A k) wx (D1.below g) (D2.below g))
   clear D1 D2;go_wp2_with fail
   go_region_held3 (fun w'=>w'.cell? ⟨w.heap.size,0,none⟩=some (.slice (some ⟨b1,o1,none⟩) n c)∧w'.cell? ⟨w.heap.size+1,0,none⟩=some (.slice (some ⟨b2,o2,none⟩) n d)∧w'.cell? ⟨b1,o1+k*2,none⟩=some (.slice x1 p2 q1)∧w'.cell? ⟨b1,o1+k*2+1,none⟩=some (.slice y1 r2 s1)∧w'.cell? ⟨b2,o2+k*2,none⟩=some (.slice x2 p2 q2)∧w'.cell? ⟨b2,o2+k*2+1,none⟩=some (.slice y2 r2 s2)) (go_keep)
    (first | (go_at_call 14; refine (C.out _ ((Below.refl _ wr).drew)).mono ?_; rintro _ w9 ⟨rfl,g9⟩; (have G9:=hid (undrew g9)); (have j1:=(G9.out.cell (p:=⟨w.heap.size,0,none⟩) LL.out.1).trans e1); (have j2:=(G9.out.cell (p:=⟨w.heap.size+1,0,none⟩) LL.out.2).trans e3); (have j3:=(G9.out.cell (p:=⟨b1,o1+k*2,none⟩) HL.out.1).trans a0); (have j4:=(G9.out.cell (p:=⟨b1,o1+k*2+1,none⟩) HL.out.1).trans a1); (have j5:=(G9.out.cell (p:=⟨b2,o2+k*2,none⟩) HL.out.2).trans a2); (have j6:=(G9.out.cell (p:=⟨b2,o2+k*2+1,none⟩) HL.out.2).trans a3); clear g9))
   all_goals go_wp2
   all_goals go_roundw
   all_goals (first | (case rel=>exact⟨k+1,by omega,by go_num,bel3 HG.out G9.out⟩) | skip)
   all_goals (simp[intOf]; omega)
  ·have hlt':¬ (k:Int)<n:=by omega
   go_wp2
   go_ret
   exact⟨rfl,bel3 HC.out.2.2.2 HG.out⟩
end Go.Proofs.YtdnacpbgodooaaaGreatDoor
namespace Go.Proofs.YtdnacpbgodooaaaGreatDoor
open Go.RowKit Go.Lib
def txt (S:List ByteArray) (i:Nat):ByteArray:=S[i]?.getD ⟨#[]⟩
theorem Z4d {w:World} {a:Option Addr} {S:List ByteArray} (h:Zd w a (S.map .string)) (k:Nat) (hk:k<S.length):∃ b o,a=some ⟨b,o,none⟩∧b<w.heap.size∧w.cell? ⟨b,o+k,none⟩=some (.string (txt S k)):=
 h k _ (by simp[txt,hk])
theorem Z2W (a:Option Addr) (n c:Nat) (b:Option Addr) (d:Nat) (S:List ByteArray) (w:World) (h:Zd w a (S.map .string)) (h2:Zd w b (S.map .string)) (hn:n=S.length) (hb:n<=maxLen):
  Calls Tryz.prog 7 #[.slice a n c,.slice b n d] w fun e w'=>e=.returned (.bool true)∧Below w.heap.size w w':=by
 have H:=hid (And.intro h h2);have HN:=hid hn;unfold maxLen at hb;have n1:((n:Int) != n)=false:=bne_self_eq_false _;clear h h2 hn;go_enter Tryz.func7,Tryz.ntmps7
 go_wp2_with fail
 clear n1;go_loopw [5] (fun i wr=>∃ k q:Nat,k<=n∧i=.int .i64 k∧wr=w.drewN q) (fun i _=>n-(RowKit.intOf i).toNat)
 case atStart=>exact⟨0,0,Nat.zero_le _,rfl,rfl⟩
 case round=>
  obtain⟨k,q,hk,rfl,rfl⟩:=hrel
  by_cases hlt:k<n
  ·have hlt':(k:Int)<n:=by omega
   obtain⟨p,o,rfl,_,e1⟩:=Z4d H.out.1 k (by rw[<- HN.out]; exact hlt)
   obtain⟨p2,o2,rfl,_,e3⟩:=Z4d H.out.2 k (by rw[<- HN.out]; exact hlt)
   generalize txt S k=s at e1 e3;clear H HN;go_wp2_with fail
   go_quiet (fail)
   go_wp2
   go_roundw
   case rel=>exact⟨k+1,_,by omega,by go_num,rfl⟩
   case measure=>simp[RowKit.intOf]; omega
  ·have hlt':¬ (k:Int)<n:=by omega
   go_wp2
   go_ret
   exact⟨rfl,below_drewN (Below.refl _ _) _⟩
end Go.Proofs.YtdnacpbgodooaaaGreatDoor
