import Derived.Test.YtdnacpbgodooaaaGreatDoorCatNB
import Derived.Deep.DeepCutAuto
import Derived.Deep.RegionHeld3
set_option maxHeartbeats 1600000
set_option maxRecDepth 4000
namespace Go.Proofs.YtdnacpbgodooaaaGreatDoor
open Go.RowKit Go.Lib
theorem Z77 (b o n c:Nat) (L:List Bk) (w0:World) (H:YP w0 (some ⟨b,o,none⟩) n L) (k:Nat) (hk:k<=n) (h0:blkN L k=0) (w:World) (g:Below w0.heap.size w0 w):
  Calls Tryz.prog 147 #[.slice (some ⟨b,o,none⟩) k c] w fun e w'=>e=.returned (.int .i64 (atB L k))∧Below w.heap.size w w':=by
 have hL:=H.sn
 have:=WA (some ⟨b,o,none⟩) k c (L.take k) w ((H.take k hk).below g) (fun j hj=>by
  subst hj;have e:bk (L.take (j+1)) j=bk L j:=by simp[bk]
  rw[e];obtain⟨h1,h2,h3⟩:=Z2r L j h0;rw[atB_succ] at h3;rw[h1];omega)
 rw[QL L k (by omega) (Wj L k h0)] at this
 exact this
theorem Z5F (b o n c:Nat) (L:List Bk) (w0:World) (H:YP w0 (some ⟨b,o,none⟩) n L) (k:Nat) (hk:k<n) (h0:blkN L k=0) (h1:(bk L k).f=atB L k) (h2:0<=(bk L k).n∧(bk L k).n<=1200) (w:World) (g:Below w0.heap.size w0 w):
  Calls Tryz.prog 147 #[.slice (some ⟨b,o,none⟩) (k+1) c] w fun e w'=>e=.returned (.int .i64 (atB L (k+1)))∧Below w.heap.size w w':=by
 have hL:=H.sn;have e:bk (L.take (k+1)) k=bk L k:=by simp[bk]
 have ha:=Z2t L k h0
 have:=WA (some ⟨b,o,none⟩) (k+1) c (L.take (k+1)) w ((H.take (k+1) (by omega)).below g) (fun j hj=>by
  obtain rfl:j=k:=by omega
  rw[e,h1];omega)
 rw[Z2w (L.take (k+1)) k (by simp; omega),e,h1] at this
 rw[atB_succ];rw[show ((atB L k+secs (bk L k).n.toNat:Nat):Int)=(atB L k:Int)+(secs (bk L k).n.toNat:Int) by omega]
 exact this
theorem Z8n (L:List Bk) (k:Nat) (h:¬ ((bk L k).f=atB L k∧(0<=(bk L k).n∧(bk L k).n<=1200)∧atB L (k+1)<=64)):bkOk L k=false:=by
 rw[bkOk,decide_eq_false h]
theorem T0 (a:Option Addr) (n c:Nat) (L:List Bk) (w:World) (H:YP w a n L) (hc:n<=c):
  Calls Tryz.prog 157 #[.slice a n c] w fun e w'=>e=.returned (.int .i64 (blkN L n))∧Below w.heap.size w w':=by
 have hnb:=H.nb;unfold maxLen at hnb;have HH:=hid H;clear H;go_enter Tryz.func157,Tryz.ntmps157
 go_wp2_with fail
 go_loopw [7] (fun i wr=>∃ k:Nat,k<=n∧i=.int .i64 k∧Hid (blkN L k=0)∧Hid (Below w.heap.size w wr)) (fun i _=>n-(intOf i).toNat)
 case atStart=>exact⟨0,Nat.zero_le _,rfl,rfl,Below.refl _ _⟩
 case round=>
  obtain⟨k,hk,rfl,h0,G⟩:=hrel
  by_cases hlt:k<n
  ·have hlt':(k:Int)<n:=by omega
   have hkc:(k:Int)<=c:=by omega
   obtain⟨b,o,rfl,hb,x0,x1⟩:=(HH.out.below G.out).c k hlt;have CB:=hid (fun wx (g:Below w.heap.size w wx)=>Z77 b o n c L w HH.out k hk h0.out wx g)
   obtain⟨W,hW⟩:∃ W,W=wr.alloc (.cells #[.int .i64 (bk L k).f,.int .i64 (bk L k).n] 100):=⟨_,rfl⟩;have hB:Below w.heap.size w W:=by rw[hW]; exact G.out.alloc G.out.size _
   have hz:W.heap.size=wr.heap.size+1:=by rw[hW]; simp
   have y0:W.cell? ⟨wr.heap.size,0,none⟩=some (.int .i64 (bk L k).f):=by rw[hW]; simp
   have y1:W.cell? ⟨wr.heap.size,1,none⟩=some (.int .i64 (bk L k).n):=by rw[hW]; simp
   have HB:=hid hB;have HZ:=hid hz;have NO:=hid (fun h=>Z2s L k h0.out (Z8n L k h) n hlt)
   by_cases f1:(bk L k).f=atB L k
   ·have q1:((bk L k).f != (atB L k:Int))=false:=by rw[bne_eq_false_iff_eq]; exact f1
    have YES:=hid (fun h=>show blkN L (k+1)=0 by rw[Wy L k h0.out,(Xb L k).2 h]; rfl)
    by_cases n0:(bk L k).n<0
    ·have m0:decide ((bk L k).n<0)=true:=decide_eq_true n0
     have R:=hid (NO.out (fun h=>by omega))
     clear NO YES n0 f1 hB hz HH;generalize (bk L k).f=f at x0 y0 q1 hW;generalize (bk L k).n=m at x1 y1 hW m0;generalize atB L k=t at CB q1;have LZ:=hid (fun w5 (g5:Below W.drew.heap.size W.drew w5)=>And.intro ((g5.cell (p:=⟨wr.heap.size,0,none⟩) (by show wr.heap.size<W.heap.size; rw[HZ.out]; omega)).trans y0) ((g5.cell (p:=⟨wr.heap.size,1,none⟩) (by show wr.heap.size<W.heap.size; rw[HZ.out]; omega)).trans y1))
     go_upto_region 4 with fail
     rw[<- hW];clear hW x0 x1
     first | go_region_with (go_at_call 147; refine (CB.out _ (HB.out.drew)).mono ?_; rintro _ w5 ⟨rfl,g5⟩; obtain⟨z0,z1⟩:=LZ.out _ g5) | fail
     all_goals go_wp2
     all_goals go_ret
     all_goals exact⟨ret_int R.out.symm,HB.out.trans ((undrew g5).mono HB.out.size)⟩
    ·have m0:decide ((bk L k).n<0)=false:=decide_eq_false n0
     by_cases n1:1200<(bk L k).n
     ·have m1:decide (1200<(bk L k).n)=true:=decide_eq_true n1
      have R:=hid (NO.out (fun h=>by omega))
      clear NO YES n0 n1 f1 hB hz HH;generalize (bk L k).f=f at x0 y0 q1 hW;generalize (bk L k).n=m at x1 y1 hW m0 m1;generalize atB L k=t at CB q1;have LZ:=hid (fun w5 (g5:Below W.drew.heap.size W.drew w5)=>And.intro ((g5.cell (p:=⟨wr.heap.size,0,none⟩) (by show wr.heap.size<W.heap.size; rw[HZ.out]; omega)).trans y0) ((g5.cell (p:=⟨wr.heap.size,1,none⟩) (by show wr.heap.size<W.heap.size; rw[HZ.out]; omega)).trans y1))
      go_upto_region 4 with fail
      rw[<- hW];clear hW x0 x1
      first | go_region_with (go_at_call 147; refine (CB.out _ (HB.out.drew)).mono ?_; rintro _ w5 ⟨rfl,g5⟩; obtain⟨z0,z1⟩:=LZ.out _ g5) | fail
      all_goals go_wp2
      all_goals go_ret
      all_goals exact⟨ret_int R.out.symm,HB.out.trans ((undrew g5).mono HB.out.size)⟩
     ·have m1:decide (1200<(bk L k).n)=false:=decide_eq_false n1
      have CB2:=hid (fun wx (g:Below w.heap.size w wx)=>Z5F b o n c L w HH.out k hlt h0.out f1 (by omega) wx g)
      have hkc2:(k:Int)+1<=c:=by omega
      have hk0:(0:Int)<=(k:Int)+1:=by omega
      have hk1:IntKind.i64.wrap ((k:Int)+1)=(k:Int)+1:=IntWalk.i64_in _ (by omega)
      by_cases n2:64<atB L (k+1)
      ·have q2:decide ((64:Int)<(atB L (k+1):Int))=true:=decide_eq_true (by omega)
       have R:=hid (NO.out (fun h=>by omega))
       clear n0 n1 n2;clear NO YES f1 hB hz HH;generalize (bk L k).f=f at x0 y0 q1 hW;generalize (bk L k).n=m at x1 y1 hW m0 m1;generalize atB L k=t at CB q1;generalize atB L (k+1)=t2 at CB2 q2;have LZ:=hid (fun w5 (g5:Below W.heap.size W w5)=>And.intro ((g5.cell (p:=⟨wr.heap.size,0,none⟩) (by show wr.heap.size<W.heap.size; rw[HZ.out]; omega)).trans y0) ((g5.cell (p:=⟨wr.heap.size,1,none⟩) (by show wr.heap.size<W.heap.size; rw[HZ.out]; omega)).trans y1))
       go_upto_region 4 with fail
       rw[<- hW];clear hW x0 x1;go_region_held3 (fun w'=>w'.cell? ⟨wr.heap.size,0,none⟩=some (.int .i64 f)∧w'.cell? ⟨wr.heap.size,1,none⟩=some (.int .i64 m)) (go_keep) (first | (go_at_call_of 147 (Value.slice (some ⟨b,o,none⟩) k c); refine (CB.out _ (HB.out.drew)).mono ?_; rintro _ w5 ⟨rfl,g5⟩; (have G5:=hid (undrew g5)); (obtain⟨z0,z1⟩:=LZ.out _ (undrew g5)); clear g5) | (go_at_call 147; refine (CB2.out _ (HB.out.trans (G5.out.mono HB.out.size))).mono ?_; rintro _ w6 ⟨rfl,g6⟩; (have G6:=hid (G5.out.trans (g6.mono G5.out.size))); (obtain⟨z0,z1⟩:=LZ.out _ G6.out); clear g6))
       all_goals go_wp2
       all_goals go_ret
       all_goals exact⟨ret_int R.out.symm,HB.out.trans (G6.out.mono HB.out.size)⟩
      ·have q2:decide ((64:Int)<(atB L (k+1):Int))=false:=decide_eq_false (by omega)
       have R:=hid (YES.out ⟨f1,by omega,by omega⟩)
       clear n0 n1 n2;clear NO YES f1 hB hz HH;generalize (bk L k).f=f at x0 y0 q1 hW;generalize (bk L k).n=m at x1 y1 hW m0 m1;generalize atB L k=t at CB q1;generalize atB L (k+1)=t2 at CB2 q2;have LZ:=hid (fun w5 (g5:Below W.heap.size W w5)=>And.intro ((g5.cell (p:=⟨wr.heap.size,0,none⟩) (by show wr.heap.size<W.heap.size; rw[HZ.out]; omega)).trans y0) ((g5.cell (p:=⟨wr.heap.size,1,none⟩) (by show wr.heap.size<W.heap.size; rw[HZ.out]; omega)).trans y1))
       go_upto_region 4 with fail
       rw[<- hW];clear hW x0 x1;go_region_held3 (fun w'=>w'.cell? ⟨wr.heap.size,0,none⟩=some (.int .i64 f)∧w'.cell? ⟨wr.heap.size,1,none⟩=some (.int .i64 m)) (go_keep) (first | (go_at_call_of 147 (Value.slice (some ⟨b,o,none⟩) k c); refine (CB.out _ (HB.out.drew)).mono ?_; rintro _ w5 ⟨rfl,g5⟩; (have G5:=hid (undrew g5)); (obtain⟨z0,z1⟩:=LZ.out _ (undrew g5)); clear g5) | (go_at_call 147; refine (CB2.out _ (HB.out.trans (G5.out.mono HB.out.size))).mono ?_; rintro _ w6 ⟨rfl,g6⟩; (have G6:=hid (G5.out.trans (g6.mono G5.out.size))); (obtain⟨z0,z1⟩:=LZ.out _ G6.out); clear g6))
       all_goals go_wp2
       all_goals go_roundw
       all_goals (first | (case rel=>exact⟨k+1,by omega,by go_num,R,hid (HB.out.trans (G6.out.mono HB.out.size))⟩) | skip)
       all_goals (simp[intOf]; omega)
   ·have q1:((bk L k).f != (atB L k:Int))=true:=by rw[bne_iff_ne]; exact f1
    have R:=hid (NO.out (fun h=>f1 h.1))
    clear NO f1 hB hz HH;generalize (bk L k).f=f at x0 y0 q1 hW;generalize (bk L k).n=m at x1 y1 hW;generalize atB L k=t at CB q1;have LZ:=hid (fun w5 (g5:Below W.drew.heap.size W.drew w5)=>And.intro ((g5.cell (p:=⟨wr.heap.size,0,none⟩) (by show wr.heap.size<W.heap.size; rw[HZ.out]; omega)).trans y0) ((g5.cell (p:=⟨wr.heap.size,1,none⟩) (by show wr.heap.size<W.heap.size; rw[HZ.out]; omega)).trans y1))
    go_upto_region 4 with fail
    rw[<- hW];clear hW x0 x1
    first | go_region_with (go_at_call 147; refine (CB.out _ (HB.out.drew)).mono ?_; rintro _ w5 ⟨rfl,g5⟩; obtain⟨z0,z1⟩:=LZ.out _ g5) | fail
    all_goals go_wp2
    all_goals go_ret
    all_goals exact⟨ret_int R.out.symm,HB.out.trans ((undrew g5).mono HB.out.size)⟩
  ·obtain rfl:k=n:=by omega
   have hlt':¬ (k:Int)<k:=by omega
   go_wp2
   go_ret
   exact⟨ret_int h0.out.symm,G.out⟩
end Go.Proofs.YtdnacpbgodooaaaGreatDoor
namespace Go.Proofs.YtdnacpbgodooaaaGreatDoor
open Go.RowKit Go.Lib
theorem Z89 (x:En) (m:Nat) (h:¬ ((0<=x.b∧x.b<m)∧(0<=x.a∧x.a<=600)∧0<=x.n∧x.n<=200)):enOk x m=false:=by
 unfold enOk;rw[decide_eq_false h,Bool.and_false]
theorem Z3e (x:En) (m:Nat) (w:World):
  Calls Tryz.prog 194 #[.agg #[.string x.s,.int .i64 x.b,.int .i64 x.a,.int .i64 x.n],.int .i64 m] w fun e w'=>e=.returned (.bool (enOk x m))∧Below w.heap.size w w':=by
 have CN:=hid (fun wx=>Z1X x.s wx)
 cases hn:nameMay x.s with
 | false=>
  have R:=hid (show enOk x m=false by unfold enOk; rw[hn,Bool.false_and])
  rw[hn] at CN;clear hn;go_enter Tryz.func194,Tryz.ntmps194
  go_wp2_with (go_at_call 142; refine (CN.out _).mono ?_; rintro _ w9 ⟨rfl,h9⟩; (have h8:=h9.symm); subst h8)
  go_ret
  exact⟨Z7 R.out.symm,by go_grown⟩
 | true=>
  have YES:=hid (fun h=>(ZO x m).2 ⟨hn,h⟩)
  have NO:=hid (Z89 x m);rw[hn] at CN;clear hn
  by_cases t0:0<=x.b
  ·
   by_cases t1:x.b<(m:Int)
   ·
    by_cases t2:0<=x.a
    ·
     by_cases t3:x.a<=600
     ·
      by_cases t4:0<=x.n
      ·
       by_cases t5:x.n<=200
       ·
        have R:=hid (YES.out ⟨⟨t0,t1⟩,⟨t2,t3⟩,t4,t5⟩);clear YES NO;go_enter Tryz.func194,Tryz.ntmps194
        go_wp2_with (go_at_call 142; refine (CN.out _).mono ?_; rintro _ w9 ⟨rfl,h9⟩; (have h8:=h9.symm); subst h8)
        go_ret
        exact⟨Z7 R.out.symm,by go_grown⟩
       ·have R:=hid (NO.out (by omega))
        clear YES NO;go_enter Tryz.func194,Tryz.ntmps194
        go_wp2_with (go_at_call 142; refine (CN.out _).mono ?_; rintro _ w9 ⟨rfl,h9⟩; (have h8:=h9.symm); subst h8)
        go_ret
        exact⟨Z7 ((decide_eq_false (by omega)).trans R.out.symm),by go_grown⟩
      ·have R:=hid (NO.out (by omega))
       clear YES NO;go_enter Tryz.func194,Tryz.ntmps194
       go_wp2_with (go_at_call 142; refine (CN.out _).mono ?_; rintro _ w9 ⟨rfl,h9⟩; (have h8:=h9.symm); subst h8)
       go_ret
       exact⟨Z7 R.out.symm,by go_grown⟩
     ·have R:=hid (NO.out (by omega))
      clear YES NO;go_enter Tryz.func194,Tryz.ntmps194
      go_wp2_with (go_at_call 142; refine (CN.out _).mono ?_; rintro _ w9 ⟨rfl,h9⟩; (have h8:=h9.symm); subst h8)
      go_ret
      exact⟨Z7 R.out.symm,by go_grown⟩
    ·have R:=hid (NO.out (by omega))
     clear YES NO;go_enter Tryz.func194,Tryz.ntmps194
     go_wp2_with (go_at_call 142; refine (CN.out _).mono ?_; rintro _ w9 ⟨rfl,h9⟩; (have h8:=h9.symm); subst h8)
     go_ret
     exact⟨Z7 R.out.symm,by go_grown⟩
   ·have R:=hid (NO.out (by omega))
    clear YES NO;go_enter Tryz.func194,Tryz.ntmps194
    go_wp2_with (go_at_call 142; refine (CN.out _).mono ?_; rintro _ w9 ⟨rfl,h9⟩; (have h8:=h9.symm); subst h8)
    go_ret
    exact⟨Z7 R.out.symm,by go_grown⟩
  ·have R:=hid (NO.out (by omega))
   clear YES NO;go_enter Tryz.func194,Tryz.ntmps194
   go_wp2_with (go_at_call 142; refine (CN.out _).mono ?_; rintro _ w9 ⟨rfl,h9⟩; (have h8:=h9.symm); subst h8)
   go_ret
   exact⟨Z7 R.out.symm,by go_grown⟩
theorem U8 (a:Option Addr) (n c:Nat) (E:List En) (m:Nat) (w:World) (H:YT w a n E):
  Calls Tryz.prog 158 #[.slice a n c,.int .i64 m] w fun e w'=>e=.returned (.int .i64 (entN E m n))∧Below w.heap.size w w':=by
 have hnb:=H.nb;unfold maxLen at hnb;have HH:=hid H;clear H;go_enter Tryz.func158,Tryz.ntmps158
 go_wp2_with fail
 go_loopw [9] (fun i wr=>∃ k:Nat,k<=n∧i=.int .i64 k∧Hid (entN E m k=0)∧Hid (Below w.heap.size w wr)) (fun i _=>n-(intOf i).toNat)
 case atStart=>exact⟨0,Nat.zero_le _,rfl,rfl,Below.refl _ _⟩
 case round=>
  obtain⟨k,hk,rfl,h0,G⟩:=hrel
  by_cases hlt:k<n
  ·have hlt':(k:Int)<n:=by omega
   obtain⟨b,o,rfl,hb,x0,x1,x2,x3⟩:=(HH.out.below G.out).c k hlt;have CI:=hid (fun wx=>Z3e (en E k) m wx)
   obtain⟨W,hW⟩:∃ W,W=wr.alloc (.cells #[.string (en E k).s,.int .i64 (en E k).b,.int .i64 (en E k).a,.int .i64 (en E k).n] 95):=⟨_,rfl⟩;have hB:Below w.heap.size w W:=by rw[hW]; exact G.out.alloc G.out.size _
   have hz:W.heap.size=wr.heap.size+1:=by rw[hW]; simp
   have y0:W.cell? ⟨wr.heap.size,0,none⟩=some (.string (en E k).s):=by rw[hW]; simp
   have HB:=hid hB;have HZ:=hid hz;have LZ:=hid (fun w5 (g5:Below W.heap.size W w5)=>(g5.cell (p:=⟨wr.heap.size,0,none⟩) (by show wr.heap.size<W.heap.size; rw[HZ.out]; omega)).trans y0)
   cases ho:enOk (en E k) m with
   | false=>
    rw[ho] at CI;have R:=hid (Z2f E m k h0.out ho n hlt);clear ho hB hz y0 LZ HH;rw[hW] at HB;clear hW;go_wp2_with fail
    refine (CI.out _).mono ?_
    rintro _ w5 ⟨rfl,g5⟩;go_wp2
    go_ret
    exact⟨ret_int R.out.symm,HB.out.trans (g5.mono HB.out.size)⟩
   | true=>
    rw[ho] at CI
    by_cases k0:k=0
    ·have kd:decide (0<k)=false:=decide_eq_false (by omega)
     have R:=hid (Vn E m k h0.out ho (by unfold enBad; rw[decide_eq_false (by omega),Bool.false_and]))
     clear ho hB hz y0 LZ HH k0;rw[hW] at HB;clear hW;go_wp2_with fail
     refine (CI.out _).mono ?_
     rintro _ w5 ⟨rfl,g5⟩;go_wp2_with fail
     go_quiet (fail)
     go_wp2
     go_roundw
     case rel=>exact⟨k+1,by omega,by go_num,R,hid (below_drewN (HB.out.trans (g5.mono HB.out.size)) _)⟩
     case measure=>simp[intOf]; omega
    ·have kd:decide (0<k)=true:=decide_eq_true (by omega)
     obtain⟨b2,o2,e2,hb2,p0,_,_,_⟩:=(HH.out.below HB.out).c (k-1) (by omega)
     cases e2
     have LP:=hid (fun w5 (g5:Below W.heap.size W w5)=>(g5.cell (p:=⟨b,o+(k-1)*4,none⟩) hb2).trans p0)
     have lp:o+((k:Int)-1).toNat*4=o+(k-1)*4:=by omega
     have k1:IntKind.i64.wrap ((k:Int)-1)=(k:Int)-1:=IntWalk.i64_in _ (by omega)
     have k2:(1:Int)<=(k:Int):=by omega
     have k4:1<=k:=by omega
     have k3:(k:Int)-1<n:=by omega
     obtain⟨r,hr⟩:∃ r,r=enBad E k:=⟨_,rfl⟩;have hr2:(Op.bytesLess (en E k).s.toList (en E (k-1)).s.toList||(en E k).s.toList==(en E (k-1)).s.toList)=r:=by rw[hr,enBad,decide_eq_true (by omega),Bool.true_and,ZE]
     generalize (en E (k-1)).s=s2 at hr2 LP;cases r with
     | false=>
      have R:=hid (Vn E m k h0.out ho hr.symm);clear ho hB hz y0 p0 hb2 HH hr;rw[hW] at HB LZ LP;clear hW k0;go_wp2_with fail
      refine (CI.out _).mono ?_
      rintro _ w5 ⟨rfl,g5⟩;have z0:=LZ.out _ g5;have z1:=LP.out _ g5;have z2:=LP.out _ g5;rw[<- lp] at z2;clear lp;clear LZ LP x0 x1 x2 x3;go_wp2_with fail
      go_quiet (fail)
      go_wp2
      go_roundw
      case rel=>exact⟨k+1,by omega,by go_num,R,hid (below_drewN (HB.out.trans (g5.mono HB.out.size)) _)⟩
      case measure=>simp[intOf]; omega
     | true=>
      have R:=hid (Z05 E m k h0.out ho hr.symm n hlt);clear ho hB hz y0 p0 hb2 HH hr;rw[hW] at HB LZ LP;clear hW k0;go_wp2_with fail
      refine (CI.out _).mono ?_
      rintro _ w5 ⟨rfl,g5⟩;have z0:=LZ.out _ g5;have z1:=LP.out _ g5;have z2:=LP.out _ g5;rw[<- lp] at z2;clear lp;clear LZ LP x0 x1 x2 x3;go_wp2_with fail
      go_quiet (fail)
      go_wp2
      go_ret
      exact⟨ret_int R.out.symm,below_drewN (HB.out.trans (g5.mono HB.out.size)) _⟩
  ·obtain rfl:k=n:=by omega
   have hlt':¬ (k:Int)<k:=by omega
   go_wp2
   go_ret
   exact⟨ret_int h0.out.symm,G.out⟩
theorem Ww (a:Option Addr) (n c:Nat) (a':Option Addr) (m c':Nat) (C:Ct) (w:World) (H:ZW w a n c a' m C):
  Calls Tryz.prog 100 #[.agg #[.slice a n c,.slice a' m c']] w fun e w'=>e=.returned (.int .i64 (catChk C))∧Below w.heap.size w w':=by
 unfold catChk;rw[<- H.B.sn,<- H.E.sn]
 by_cases h1:10<n
 ·have h1':(10:Int)<n:=by omega
  rw[if_pos (.inl h1)];clear H h1;go_enter Tryz.func100,Tryz.ntmps100
  go_wp2
  go_ret
  exact⟨rfl,by go_grown⟩
 ·have h1':¬ (10:Int)<n:=by omega
  by_cases h2:10<m
  ·have h2':(10:Int)<m:=by omega
   rw[if_pos (.inr h2)];clear H h1 h2;go_enter Tryz.func100,Tryz.ntmps100
   go_wp2
   go_ret
   exact⟨rfl,by go_grown⟩
  ·have h2':¬ (10:Int)<m:=by omega
   rw[if_neg (by omega)]
   obtain⟨W,hW⟩:∃ W,W=w.alloc (.cells #[.slice a n c,.slice a' m c'] 83):=⟨_,rfl⟩;have hB:Below w.heap.size w W:=by rw[hW]; exact (Below.refl _ w).alloc (Nat.le_refl _) _
   have bx:Box2 W w.heap.size (.slice a n c) (.slice a' m c'):=by rw[hW]; exact box2_of (Own.made w 83 [.slice a n c,.slice a' m c'])
   have CB:=T0 a n c C.1 W (H.below hB).B H.cap;rw[hW] at CB;have CE:=hid (fun wx (g:Below W.heap.size W wx)=>U8 a' m c' C.2 n wx ((H.below hB).below g).E)
   have HP:=hid (And.intro hB (And.intro bx hW));clear hB bx hW H h1 h2
   by_cases e:blkN C.1 n=0
   ·rw[if_pos e]
    rw[e] at CB;clear e;generalize entN C.2 n m=T at CE;have CB':=hid CB;clear CB;go_enter Tryz.func100,Tryz.ntmps100
    go_wp2_with fail
    refine CB'.out.mono ?_
    rintro _ w1 ⟨rfl,g1⟩;rw[<- HP.out.2.2] at g1;have d0:=(HP.out.2.1.below g1).c0;have d1:=(HP.out.2.1.below g1).c1;have G1:=hid g1;clear g1 CB';go_wp2_with fail
    refine (CE.out _ G1.out).mono ?_
    rintro _ w2 ⟨rfl,g2⟩;go_wp2
    go_ret
    exact⟨rfl,HP.out.1.trans ((G1.out.trans (g2.mono G1.out.size)).mono HP.out.1.size)⟩
   ·rw[if_neg e]
    generalize blkN C.1 n=T at e CB;have e':(T != 0)=true:=by rw[bne_iff_ne]; exact e
    have CB':=hid CB;clear CB e;go_enter Tryz.func100,Tryz.ntmps100
    go_wp2_with fail
    refine CB'.out.mono ?_
    rintro _ w1 ⟨rfl,g1⟩;rw[<- HP.out.2.2] at g1;go_wp2
    go_ret
    exact⟨rfl,HP.out.1.trans (g1.mono HP.out.1.size)⟩
end Go.Proofs.YtdnacpbgodooaaaGreatDoor
namespace Go.Proofs.YtdnacpbgodooaaaGreatDoor
open Go.RowKit Go.Lib
theorem Z8o (L:List Bk) (k:Nat):bkOk L k=(decide ((bk L k).f=atB L k)&&decide (0<=(bk L k).n∧(bk L k).n<=1200)&&decide (atB L (k+1)<=64)):=by
 unfold bkOk;rw[Bool.eq_iff_iff];simp[and_assoc]
theorem Z8a (x:En) (m:Nat):enOk x m=(nameMay x.s&&decide (0<=x.b∧x.b<=(m:Int)-1)&&decide (0<=x.a∧x.a<=600)&&decide (0<=x.n∧x.n<=200)):=by
 unfold enOk
 have:decide (0<=x.b∧x.b<=(m:Int)-1)=decide (0<=x.b∧x.b<m):=by rw[decide_eq_decide]; omega
 rw[this,Bool.eq_iff_iff];simp[and_assoc]
theorem Z3p (a:Option Addr) (n c:Nat) (a':Option Addr) (m c':Nat) (w:World) (h:10<n∨10<m):
  Calls Tryz.prog 126 #[.agg #[.slice a n c,.slice a' m c']] w fun e w'=>e=.returned (.int .i64 1)∧Below w.heap.size w w':=by
 by_cases h1:10<n
 ·have h1':(10:Int)<n:=by omega
  clear h;go_enter Tryz.func126,Tryz.ntmps126
  go_wp2
  go_ret
  exact⟨rfl,by go_grown⟩
 ·have h1':¬ (10:Int)<n:=by omega
  have h2':(10:Int)<m:=by omega
  clear h;go_enter Tryz.func126,Tryz.ntmps126
  go_wp2
  go_ret
  exact⟨rfl,by go_grown⟩
theorem Vl (a:Option Addr) (n c:Nat) (a':Option Addr) (m c':Nat) (C:Ct) (w:World) (H:ZW w a n c a' m C):
  Calls Tryz.prog 126 #[.agg #[.slice a n c,.slice a' m c']] w fun e w'=>e=.returned (.int .i64 (catChk C))∧Below w.heap.size w w':=by
 unfold catChk;rw[<- H.B.sn,<- H.E.sn]
 by_cases hs:10<n∨10<m
 ·rw[if_pos hs]
  exact Z3p a n c a' m c' w hs
 ·rw[if_neg hs]
  have h1:¬ (10:Int)<n:=by omega
  have h2:¬ (10:Int)<m:=by omega
  have hn:n<=10:=by omega
  have hm:m<=10:=by omega
  clear hs;obtain⟨T,hT⟩:∃ T:Int,T=if blkN C.1 n=0 then entN C.2 n m else blkN C.1 n:=⟨_,rfl⟩
  rw[<- hT];have HT:=hid hT;clear hT;obtain⟨W,hW⟩:∃ W,W=w.alloc (.cells #[.slice a n c,.slice a' m c'] 83):=⟨_,rfl⟩;have hB:Below w.heap.size w W:=by rw[hW]; exact (Below.refl _ w).alloc (Nat.le_refl _) _
  have bx:Box2 W w.heap.size (.slice a n c) (.slice a' m c'):=by rw[hW]; exact box2_of (Own.made w 83 [.slice a n c,.slice a' m c'])
  have HP:=hid (And.intro hB (And.intro bx (H.below hB)));clear hB bx H;go_enter Tryz.func126,Tryz.ntmps126
  go_wp2_with fail
  rw[<- hW];clear hW h1 h2;go_loopw [3,4] (fun t i wr=>∃ k:Nat,k<=n∧i=.int .i64 k∧t=.int .i64 (atB C.1 k)∧Hid (blkN C.1 k=0)∧Hid (Below W.heap.size W wr)) (fun _ i _=>n-(intOf i).toNat)
  case atStart=>exact⟨0,Nat.zero_le _,rfl,rfl,rfl,Below.refl _ _⟩
  case round=>
   obtain⟨k,hk,rfl,rfl,h0,G⟩:=hrel;have d0:=(HP.out.2.1.below G.out).c0;have d1:=(HP.out.2.1.below G.out).c1
   by_cases hlt:k<n
   ·have hlt':(k:Int)<n:=by omega
    obtain⟨b,o,rfl,hb,x0,x1⟩:=(HP.out.2.2.below G.out).B.c k hlt;have hat:=Z2t C.1 k h0.out;have e1:=Z8o C.1 k;have e2:=atB_succ C.1 k;have NO:=hid (fun (h:bkOk C.1 k=false)=>show T=4 by rw[HT.out,Z2s C.1 k h0.out h n hlt,if_neg (by decide)])
    have YES:=hid (fun (h:bkOk C.1 k=true)=>show blkN C.1 (k+1)=0 by rw[Wy C.1 k h0.out,h]; rfl)
    have GB:=hid (G.out.alloc G.out.size (.cells #[.int .i64 (bk C.1 k).f,.int .i64 (bk C.1 k).n] 100));have C2:=hid (fun wx=>Zm (bk C.1 k).n 0 1200 wx)
    by_cases f1:(bk C.1 k).f=atB C.1 k
    ·have q1:((bk C.1 k).f != (atB C.1 k:Int))=false:=by rw[bne_eq_false_iff_eq]; exact f1
     by_cases n0:0<=(bk C.1 k).n∧(bk C.1 k).n<=1200
     ·rw[decide_eq_true n0] at C2
      obtain⟨M,hM⟩:∃ M:Nat,(bk C.1 k).n=M:=⟨(bk C.1 k).n.toNat,by omega⟩
      rw[hM,Int.toNat_natCast] at e2;have CS:=hid (fun wx=>ZI M wx (by omega))
      have h64:=WM M (by omega)
      by_cases n2:64<atB C.1 (k+1)
      ·have R:=hid (NO.out (by rw[e1,decide_eq_false (show ¬ atB C.1 (k+1)<=64 by omega),Bool.and_false]))
       rw[e2] at n2;have n3:(64:Int)<(atB C.1 k:Int)+(secs M:Int):=by omega
       rw[hM] at x1 C2 GB;generalize (bk C.1 k).f=f at x0 q1 GB;generalize secs M=S at CS h64 n3;generalize atB C.1 k=t at q1 n3 hat ⊢;clear NO YES e1 e2 f1 n0 hM n2;go_wp2_with (first | (go_at_call 28; refine (C2.out _).mono ?_; rintro _ w9 ⟨rfl,h9⟩; (have h8:=h9.symm); subst h8) | (go_at_call 66; refine (CS.out _).mono ?_; rintro _ w9 ⟨rfl,h9⟩; (have h8:=h9.symm); subst h8))
       go_ret
       exact⟨ret_int R.out.symm,HP.out.1.trans (GB.out.mono HP.out.1.size)⟩
      ·have R:=hid (YES.out (by rw[e1,decide_eq_true f1,decide_eq_true n0,decide_eq_true (show atB C.1 (k+1)<=64 by omega)]; rfl))
       have n3:¬ (64:Int)<(atB C.1 k:Int)+(secs M:Int):=by omega
       have E2:=hid (show (atB C.1 k:Int)+(secs M:Int)=(atB C.1 (k+1):Int) by omega)
       rw[hM] at x1 C2 GB;generalize (bk C.1 k).f=f at x0 q1 GB;generalize secs M=S at CS h64 n3 E2;generalize atB C.1 k=t at q1 n3 hat E2 ⊢;clear NO YES e1 e2 f1 n0 hM n2;go_wp2_with (first | (go_at_call 28; refine (C2.out _).mono ?_; rintro _ w9 ⟨rfl,h9⟩; (have h8:=h9.symm); subst h8) | (go_at_call 66; refine (CS.out _).mono ?_; rintro _ w9 ⟨rfl,h9⟩; (have h8:=h9.symm); subst h8))
       go_roundw
       case rel=>exact⟨k+1,by omega,by go_num,by rw[E2.out],R,GB⟩
       case measure=>simp[intOf]; omega
     ·rw[decide_eq_false n0] at C2
      have R:=hid (NO.out (by rw[e1,decide_eq_false n0,Bool.and_false,Bool.false_and]))
      generalize (bk C.1 k).f=f at x0 q1 GB;generalize (bk C.1 k).n=M at x1 C2 GB;generalize atB C.1 k=t at q1 hat ⊢;clear NO YES e1 e2 f1 n0;go_wp2_with (go_at_call 28; refine (C2.out _).mono ?_; rintro _ w9 ⟨rfl,h9⟩; (have h8:=h9.symm); subst h8)
      go_ret
      exact⟨ret_int R.out.symm,HP.out.1.trans (GB.out.mono HP.out.1.size)⟩
    ·have q1:((bk C.1 k).f != (atB C.1 k:Int))=true:=by rw[bne_iff_ne]; exact f1
     have R:=hid (NO.out (by rw[e1,decide_eq_false f1,Bool.false_and,Bool.false_and]))
     generalize (bk C.1 k).f=f at x0 q1 GB;generalize (bk C.1 k).n=M at x1 C2 GB;generalize atB C.1 k=t at q1 hat ⊢;clear NO YES e1 e2 f1;go_wp2
     go_ret
     exact⟨ret_int R.out.symm,HP.out.1.trans (GB.out.mono HP.out.1.size)⟩
   ·obtain rfl:k=n:=by omega
    have hlt':¬ (k:Int)<k:=by omega
    have HT2:=hid (show T=entN C.2 k m by rw[HT.out,if_pos h0.out])
    have hnk:(k:Int)<=10:=by omega
    clear HT h0 hk;go_wp2_with fail
    clear d0 d1;have G0:=G;clear G;go_loopw [6] (fun i wr=>∃ j:Nat,j<=m∧i=.int .i64 j∧Hid (entN C.2 k j=0)∧Hid (Below W.heap.size W wr)) (fun i _=>m-(intOf i).toNat)
    case atStart=>exact⟨0,Nat.zero_le _,rfl,rfl,G0⟩
    case round=>
     obtain⟨j,hj,rfl,h0,G⟩:=hrel;have d0:=(HP.out.2.1.below G.out).c0;have d1:=(HP.out.2.1.below G.out).c1;clear hlt'
     by_cases hlt:j<m
     ·have hlt':(j:Int)<m:=by omega
      obtain⟨b,o,rfl,hb,x0,x1,x2,x3⟩:=(HP.out.2.2.below G.out).E.c j hlt;have nm:=HP.out.2.2.E.nm j hlt;have hz:w.heap.size<wr.heap.size:=YL d0;have e1:=Z8a (en C.2 j) k;have NO:=hid (fun (h:enOk (en C.2 j) k=false)=>show T=4 by rw[HT2.out,Z2f C.2 k j h0.out h m hlt])
      have OK:=hid (fun (h:enOk (en C.2 j) k=true)=>h)
      have GB:=hid (G.out.alloc G.out.size (.cells #[.string (en C.2 j).s,.int .i64 (en C.2 j).b,.int .i64 (en C.2 j).a,.int .i64 (en C.2 j).n] 95));have C1:=hid (fun wx=>UG (en C.2 j).s wx nm)
      have C2:=hid (fun wx=>Zm (en C.2 j).b 0 ((k:Int)-1) wx)
      have C3:=hid (fun wx=>Zm (en C.2 j).a 0 600 wx)
      have C4:=hid (fun wx=>Zm (en C.2 j).n 0 200 wx)
      generalize nameMay (en C.2 j).s=r1 at e1 C1;generalize decide (0<=(en C.2 j).b∧(en C.2 j).b<=(k:Int)-1)=r2 at e1 C2;generalize decide (0<=(en C.2 j).a∧(en C.2 j).a<=600)=r3 at e1 C3;generalize decide (0<=(en C.2 j).n∧(en C.2 j).n<=200)=r4 at e1 C4;clear nm;cases r1 with
      | false=>
       have R:=hid (NO.out (by rw[e1]; rfl))
       clear NO OK;go_wp2_with (first | (go_at_call 123; refine (C1.out _).mono ?_; rintro _ w9 ⟨rfl,h9⟩; (have h8:=h9.symm); subst h8))
       go_ret
       exact⟨ret_int R.out.symm,HP.out.1.trans (GB.out.mono HP.out.1.size)⟩
      | true=>
       cases r2 with
       | false=>
        have R:=hid (NO.out (by rw[e1]; rfl))
        clear NO OK;go_wp2_with (first | (go_at_call 123; refine (C1.out _).mono ?_; rintro _ w9 ⟨rfl,h9⟩; (have h8:=h9.symm); subst h8) | (go_at_call 28; refine (C2.out _).mono ?_; rintro _ w9 ⟨rfl,h9⟩; (have h8:=h9.symm); subst h8))
        go_ret
        exact⟨ret_int R.out.symm,HP.out.1.trans (GB.out.mono HP.out.1.size)⟩
       | true=>
        cases r3 with
        | false=>
         have R:=hid (NO.out (by rw[e1]; rfl))
         clear NO OK;go_wp2_with (first | (go_at_call 123; refine (C1.out _).mono ?_; rintro _ w9 ⟨rfl,h9⟩; (have h8:=h9.symm); subst h8) | (go_at_call_of 28 (Value.int IntKind.i64 600); refine (C3.out _).mono ?_; rintro _ w9 ⟨rfl,h9⟩; (have h8:=h9.symm); subst h8) | (go_at_call 28; refine (C2.out _).mono ?_; rintro _ w9 ⟨rfl,h9⟩; (have h8:=h9.symm); subst h8))
         go_ret
         exact⟨ret_int R.out.symm,HP.out.1.trans (GB.out.mono HP.out.1.size)⟩
        | true=>
         cases r4 with
         | false=>
          have R:=hid (NO.out (by rw[e1]; rfl))
          clear NO OK;go_wp2_with (first | (go_at_call 123; refine (C1.out _).mono ?_; rintro _ w9 ⟨rfl,h9⟩; (have h8:=h9.symm); subst h8) | (go_at_call_of 28 (Value.int IntKind.i64 600); refine (C3.out _).mono ?_; rintro _ w9 ⟨rfl,h9⟩; (have h8:=h9.symm); subst h8) | (go_at_call_of 28 (Value.int IntKind.i64 200); refine (C4.out _).mono ?_; rintro _ w9 ⟨rfl,h9⟩; (have h8:=h9.symm); subst h8) | (go_at_call 28; refine (C2.out _).mono ?_; rintro _ w9 ⟨rfl,h9⟩; (have h8:=h9.symm); subst h8))
          go_ret
          exact⟨ret_int R.out.symm,HP.out.1.trans (GB.out.mono HP.out.1.size)⟩
         | true=>
          have ok:=OK.out (by rw[e1]; rfl)
          clear NO OK e1
          by_cases k0:j=0
          ·have kd:decide (0<j)=false:=decide_eq_false (by omega)
           have R:=hid (Vn C.2 k j h0.out ok (by unfold enBad; rw[decide_eq_false (by omega),Bool.false_and]))
           clear ok k0;go_wp2_with (first | (go_at_call 123; refine (C1.out _).mono ?_; rintro _ w9 ⟨rfl,h9⟩; (have h8:=h9.symm); subst h8) | (go_at_call_of 28 (Value.int IntKind.i64 600); refine (C3.out _).mono ?_; rintro _ w9 ⟨rfl,h9⟩; (have h8:=h9.symm); subst h8) | (go_at_call_of 28 (Value.int IntKind.i64 200); refine (C4.out _).mono ?_; rintro _ w9 ⟨rfl,h9⟩; (have h8:=h9.symm); subst h8) | (go_at_call 28; refine (C2.out _).mono ?_; rintro _ w9 ⟨rfl,h9⟩; (have h8:=h9.symm); subst h8))
           go_quiet (fail)
           go_wp2
           go_roundw
           case rel=>exact⟨j+1,by omega,by go_num,R,hid (below_drewN GB.out _)⟩
           case measure=>simp[intOf]; omega
          ·have kd:decide (0<j)=true:=decide_eq_true (by omega)
           obtain⟨b2,o2,e2,hb2,p0,_,_,_⟩:=(HP.out.2.2.below G.out).E.c (j-1) (by omega)
           cases e2
           have lp:o+((j:Int)-1).toNat*4=o+(j-1)*4:=by omega
           have p1:=p0;rw[<- lp] at p1;have k1:IntKind.i64.wrap ((j:Int)-1)=(j:Int)-1:=IntWalk.i64_in _ (by omega)
           have k2:(1:Int)<=(j:Int):=by omega
           have k4:1<=j:=by omega
           have k3:(j:Int)-1<m:=by omega
           obtain⟨r,hr⟩:∃ r,r=enBad C.2 j:=⟨_,rfl⟩;have hr2:(Op.bytesLess (en C.2 j).s.toList (en C.2 (j-1)).s.toList||(en C.2 j).s.toList==(en C.2 (j-1)).s.toList)=r:=by rw[hr,enBad,decide_eq_true (by omega),Bool.true_and,ZE]
           generalize (en C.2 (j-1)).s=s2 at hr2 p0 p1;clear lp;cases r with
           | false=>
            have R:=hid (Vn C.2 k j h0.out ok hr.symm);clear ok k0 hr;go_wp2_with (first | (go_at_call 123; refine (C1.out _).mono ?_; rintro _ w9 ⟨rfl,h9⟩; (have h8:=h9.symm); subst h8) | (go_at_call_of 28 (Value.int IntKind.i64 600); refine (C3.out _).mono ?_; rintro _ w9 ⟨rfl,h9⟩; (have h8:=h9.symm); subst h8) | (go_at_call_of 28 (Value.int IntKind.i64 200); refine (C4.out _).mono ?_; rintro _ w9 ⟨rfl,h9⟩; (have h8:=h9.symm); subst h8) | (go_at_call 28; refine (C2.out _).mono ?_; rintro _ w9 ⟨rfl,h9⟩; (have h8:=h9.symm); subst h8))
            go_quiet (fail)
            go_wp2
            go_roundw
            case rel=>exact⟨j+1,by omega,by go_num,R,hid (below_drewN GB.out _)⟩
            case measure=>simp[intOf]; omega
           | true=>
            have R:=hid (show T=12 by rw[HT2.out,Z05 C.2 k j h0.out ok hr.symm m hlt])
            clear ok k0 hr;go_wp2_with (first | (go_at_call 123; refine (C1.out _).mono ?_; rintro _ w9 ⟨rfl,h9⟩; (have h8:=h9.symm); subst h8) | (go_at_call_of 28 (Value.int IntKind.i64 600); refine (C3.out _).mono ?_; rintro _ w9 ⟨rfl,h9⟩; (have h8:=h9.symm); subst h8) | (go_at_call_of 28 (Value.int IntKind.i64 200); refine (C4.out _).mono ?_; rintro _ w9 ⟨rfl,h9⟩; (have h8:=h9.symm); subst h8) | (go_at_call 28; refine (C2.out _).mono ?_; rintro _ w9 ⟨rfl,h9⟩; (have h8:=h9.symm); subst h8))
            go_quiet (fail)
            go_wp2
            go_ret
            exact⟨ret_int R.out.symm,HP.out.1.trans ((below_drewN GB.out _).mono HP.out.1.size)⟩
     ·obtain rfl:j=m:=by omega
      have hlt':¬ (j:Int)<j:=by omega
      have R:=hid (show T=0 by rw[HT2.out,h0.out])
      go_wp2
      go_ret
      exact⟨ret_int R.out.symm,HP.out.1.trans (G.out.mono HP.out.1.size)⟩
end Go.Proofs.YtdnacpbgodooaaaGreatDoor
namespace Go.Proofs.YtdnacpbgodooaaaGreatDoor
open Go.RowKit Go.Lib
theorem Z5u (a:Option Addr) (n c:Nat) (a':Option Addr) (m c':Nat) (C:Ct) (w:World) (H:ZW w a n c a' m C):
  Calls Tryz.prog 93 #[.agg #[.slice a n c,.slice a' m c']] w fun e w'=>e=.returned (.tuple #[.int .i64 (Y4 C).1,.int .i64 (Y4 C).2])∧Below w.heap.size w w':=by
 obtain⟨W,hW⟩:∃ W,W=w.alloc (.cells #[.slice a n c,.slice a' m c'] 83):=⟨_,rfl⟩;have hB:Below w.heap.size w W:=by rw[hW]; exact (Below.refl _ w).alloc (Nat.le_refl _) _
 have bd:Box2 W w.heap.size (.slice a n c) (.slice a' m c'):=by rw[hW]; exact box2_of (Own.made w 83 [.slice a n c,.slice a' m c'])
 have h1:=Ww a n c a' m c' C W (H.below hB);rw[hW] at h1;unfold Y4
 by_cases e:catChk C=0
 ·rw[if_pos e]
  rw[e] at h1;obtain⟨k1,k2,k3,k4⟩:=Xg C e;have CB:Hid (∀ wx,Below W.heap.size W wx->Calls Tryz.prog 147 #[.slice a n c] wx fun e w'=>e=.returned (.int .i64 (atB C.1 C.1.length))∧Below wx.heap.size wx w'):=by
   intro wx g
   have:=WA a n c C.1 wx (((H.below hB).below g).B) (fun j hj=>by
    have hl:C.1.length=j+1:=by rw[<- H.B.sn,hj]
    rw[hl] at k3;obtain⟨h1,h2,h3⟩:=Z2r C.1 j k3;rw[atB_succ] at h3;rw[h1];omega)
   rw[show behB C.1=atB C.1 C.1.length by
    have:=QL C.1 C.1.length (Nat.le_refl _) (Wj C.1 _ k3)
    rw[List.take_length] at this;exact this] at this
   exact this
  generalize atB C.1 C.1.length=T at CB;have HP:=hid (And.intro hB (And.intro bd hW));have H1:=hid h1;clear hB bd H h1 hW e k1 k2 k3 k4;go_enter Tryz.func93,Tryz.ntmps93
  go_wp2_with fail
  refine H1.out.mono ?_
  rintro e w1 ⟨rfl,g1⟩;rw[<- HP.out.2.2] at g1;have d0:=(HP.out.2.1.below g1).c0;have d1:=(HP.out.2.1.below g1).c1;have G1:=hid g1;clear g1 H1;go_wp2_with fail
  refine (CB.out _ G1.out).mono ?_
  rintro e w2 ⟨rfl,g2⟩;go_wp2
  go_ret2
  exact⟨rfl,HP.out.1.trans ((G1.out.trans (g2.mono G1.out.size)).mono HP.out.1.size)⟩
 ·rw[if_neg e]
  generalize catChk C=T at h1 e;have e':(T != 0)=true:=by rw[bne_iff_ne]; exact e
  have HP:=hid (And.intro hB (And.intro bd hW));have H1:=hid h1;clear hB bd H h1 hW e;go_enter Tryz.func93,Tryz.ntmps93
  go_wp2_with fail
  refine H1.out.mono ?_
  rintro e w1 ⟨rfl,g1⟩;rw[<- HP.out.2.2] at g1;go_wp2
  go_ret2
  exact⟨rfl,HP.out.1.trans (g1.mono HP.out.1.size)⟩
theorem Z0Q (a:Option Addr) (n c:Nat) (a':Option Addr) (m c':Nat) (C:Ct) (w:World) (H:ZW w a n c a' m C):
  Calls Tryz.prog 65 #[.agg #[.slice a n c,.slice a' m c']] w fun e w'=>e=.returned (.tuple #[.int .i64 (Y4 C).1,.int .i64 (Y4 C).2])∧Below w.heap.size w w':=by
 obtain⟨W,hW⟩:∃ W,W=w.alloc (.cells #[.slice a n c,.slice a' m c'] 83):=⟨_,rfl⟩;have hB:Below w.heap.size w W:=by rw[hW]; exact (Below.refl _ w).alloc (Nat.le_refl _) _
 have bd:Box2 W w.heap.size (.slice a n c) (.slice a' m c'):=by rw[hW]; exact box2_of (Own.made w 83 [.slice a n c,.slice a' m c'])
 have h1:=Vl a n c a' m c' C W (H.below hB);rw[hW] at h1;unfold Y4
 by_cases e:catChk C=0
 ·rw[if_pos e]
  rw[e] at h1;obtain⟨k1,k2,k3,k4⟩:=Xg C e;have hn:=H.B.sn;rw[<- hn] at k1 k3 ⊢;have K3:=hid k3;have HP:=hid (And.intro hB (And.intro bd (And.intro hW (H.below hB))));have H1:=hid h1;clear hB bd H h1 hW e k2 k3 k4 hn;go_enter Tryz.func65,Tryz.ntmps65
  go_wp2_with fail
  refine H1.out.mono ?_
  rintro e w1 ⟨rfl,g1⟩;rw[<- HP.out.2.2.1] at g1;have d0:=(HP.out.2.1.below g1).c0;have G1:=hid g1;clear g1 H1;go_wp2_with fail
  go_loopw [5,6] (fun t i wr=>∃ k:Nat,k<=n∧i=.int .i64 k∧t=.int .i64 (atB C.1 k)∧wr=w1) (fun _ i _=>n-(intOf i).toNat)
  case atStart=>exact⟨0,Nat.zero_le _,rfl,rfl,rfl⟩
  case round=>
   obtain⟨k,hk,rfl,rfl,rfl⟩:=hrel
   by_cases hlt:k<n
   ·have hlt':(k:Int)<n:=by omega
    obtain⟨b,o,rfl,hb,x0,x1⟩:=(HP.out.2.2.2.below G1.out).B.c k hlt;obtain⟨h1,h2,h3⟩:=(Xb C.1 k).1 (Wj C.1 n K3.out k hlt);obtain⟨M,hM⟩:∃ M:Nat,(bk C.1 k).n=M:=⟨(bk C.1 k).n.toNat,by omega⟩
    have e2:=atB_succ C.1 k;rw[hM,Int.toNat_natCast] at e2;rw[hM] at x1;have CS:=hid (fun wx=>ZI M wx (by omega))
    have h64:atB C.1 k+secs M<=64:=by omega
    have E2:=hid (show (atB C.1 k:Int)+(secs M:Int)=(atB C.1 (k+1):Int) by omega)
    generalize secs M=S at CS h64 E2;generalize atB C.1 k=t at h64 E2 ⊢;clear h1 h2 h3 hM e2 x0;go_wp2_with (go_at_call 66; refine (CS.out _).mono ?_; rintro _ w9 ⟨rfl,h9⟩; (have h8:=h9.symm); subst h8)
    go_roundw
    case rel=>exact⟨k+1,by omega,by go_num,by rw[E2.out],by first | rfl | trivial⟩
    case measure=>simp[intOf]; omega
   ·obtain rfl:k=n:=by omega
    have hlt':¬ (k:Int)<k:=by omega
    go_wp2
    go_ret2
    exact⟨rfl,HP.out.1.trans (G1.out.mono HP.out.1.size)⟩
 ·rw[if_neg e]
  generalize catChk C=T at h1 e;have e':(T != 0)=true:=by rw[bne_iff_ne]; exact e
  have HP:=hid (And.intro hB (And.intro bd hW));have H1:=hid h1;clear hB bd H h1 hW e;go_enter Tryz.func65,Tryz.ntmps65
  go_wp2_with fail
  refine H1.out.mono ?_
  rintro e w1 ⟨rfl,g1⟩;rw[<- HP.out.2.2] at g1;go_wp2
  go_ret2
  exact⟨rfl,HP.out.1.trans (g1.mono HP.out.1.size)⟩
end Go.Proofs.YtdnacpbgodooaaaGreatDoor
