import Derived.Test.YtdnacpbgodooaaaGreatDoorArrA
set_option maxHeartbeats 1600000
set_option maxRecDepth 4000
namespace Go.Proofs.YtdnacpbgodooaaaGreatDoor
open Go.RowKit Go.Lib
theorem XA (b o c:Nat) (h:Nat->Hd) (A:Ar) (n:Nat) (s:ByteArray) (w:World) (H:Z4 w b o 3 h A):
  Calls Tryz.prog 187 #[.agg #[.slice (some ⟨b,o,none⟩) 3 c],.int .i64 n,.string s] w fun e w'=>e=.returned (.tuple #[])∧w.grownBy w' (some b)∧∃ h',Z4 w' b o 3 h' (both A n s.data.toList):=by
 obtain⟨W,hW⟩:∃ W,W=w.alloc (.cells #[.slice (some ⟨b,o,none⟩) 3 c] 26):=⟨_,rfl⟩;have hB:Below w.heap.size w W:=by rw[hW]; go_grown
 have hz:W.heap.size=w.heap.size+1:=by rw[hW]; simp
 have c0:W.cell? ⟨w.heap.size,0,none⟩=some (.slice (some ⟨b,o,none⟩) 3 c):=by rw[hW]; simp
 have HP:=hid (And.intro hB (And.intro hz (And.intro c0 (And.intro (H.below hB) H.arr.lt))));obtain⟨⟨t0,t1⟩,_⟩:=(H.below hB).arr.three;have C1:=hid (fun wx (g:Below W.heap.size W wx)=>WZ (h 0).x (h 0).p (h 0).c (h 0).y (h 0).q (h 0).d n n s (dev A 0) wx (((H.below hB).arr.below g).dv 0 (by omega)))
 have hb:both A n s.data.toList=(A.set 0 (dvWrite (dev A 0) n n s.data.toList).1).set 1 (dvWrite (dev (A.set 0 (dvWrite (dev A 0) n n s.data.toList).1) 1) n n s.data.toList).1:=by
  rw[both,Vq A 0 1 _ (by decide)]
 rw[hb];generalize dvWrite (dev A 0) n n s.data.toList=r0 at C1;clear hb hB hz H;go_enter Tryz.func187,Tryz.ntmps187
 go_upto_region 1 with fail
 rw[<- hW];clear hW;go_cut [] (fun wx=>W.grownBy wx (some b)∧wx.cell? ⟨w.heap.size,0,none⟩=some (.slice (some ⟨b,o,none⟩) 3 c)∧∃ h',Z4 wx b o 3 h' (A.set 0 r0.1))
 case first=>
  go_region_with (go_at_call 197; refine (C1.out _ ((Below.refl _ W).drew)).mono ?_; rintro _ w4 ⟨x,p,e,y,q,d,rfl,hD,hF,g4⟩; (have g5:=undrew g4); (have Z:=stored (c:=e) (d:=d) HP.out.2.2.2.1 (show 0<3 by omega) g5 hD); (have z0:w4.cell? ⟨b,o,none⟩=some (.slice (h 0).x (h 0).p (h 0).c):=Z.1.1); (have z1:w4.cell? ⟨b,o+1,none⟩=some (.slice (h 0).y (h 0).q (h 0).d):=Z.1.2.1); (have z2:w4.frozen? ⟨b,o,none⟩=false:=Z.1.2.2.1); (have z3:w4.frozen? ⟨b,o+1,none⟩=false:=Z.1.2.2.2); (have zb:=(g5.cell (p:=⟨w.heap.size,0,none⟩) (by show w.heap.size<W.heap.size; rw[HP.out.2.1]; omega)).trans HP.out.2.2.1); (have HZ:=hid (And.intro Z.2 g5)); clear g4 g5 hD hF Z)
  all_goals (go_wp2_with fail; go_meet)
  all_goals exact⟨HZ.out.1.2,Yo HZ.out.1.2 HP.out.2.2.1 (by rw[HP.out.2.1]; omega) (Nat.ne_of_gt HP.out.2.2.2.2),HZ.out.1.1⟩
 case rest=>
  obtain⟨k1,k2,h1,k3⟩:=hcut;have C2:=hid (fun wx (g:Below wc.heap.size wc wx)=>WZ (h1 1).x (h1 1).p (h1 1).c (h1 1).y (h1 1).q (h1 1).d n n s (dev (A.set 0 r0.1) 1) wx ((k3.arr.below g).dv 1 (by omega)))
  obtain⟨_,⟨u0,u1⟩,_⟩:=k3.arr.three;have HQ:=hid (And.intro (show w.heap.size<wc.heap.size by have:=k1.size; rw[HP.out.2.1] at this; omega) (And.intro k2 k3))
  have HG:=hid (ZB (ZC (b:=b) HP.out.1) k1);clear k1 k3 C1 c0 t0 t1;go_wp2_with fail
  go_region_with (go_at_call 197; refine (C2.out _ ((Below.refl _ wc).drew)).mono ?_; rintro _ w4 ⟨x,p,e,y,q,d,rfl,hD,hF,g4⟩; (have g5:=undrew g4); (have Z:=stored (c:=e) (d:=d) HQ.out.2.2 (show 1<3 by omega) g5 hD); (have z0:w4.cell? ⟨b,o+2,none⟩=some (.slice (h1 1).x (h1 1).p (h1 1).c):=Z.1.1); (have z1:w4.cell? ⟨b,o+3,none⟩=some (.slice (h1 1).y (h1 1).q (h1 1).d):=Z.1.2.1); (have z2:w4.frozen? ⟨b,o+2,none⟩=false:=Z.1.2.2.1); (have z3:w4.frozen? ⟨b,o+3,none⟩=false:=Z.1.2.2.2); (have zb:=(g5.cell (p:=⟨w.heap.size,0,none⟩) HQ.out.1).trans HQ.out.2.1); (have HZ:=hid (And.intro Z.2 g5)); clear g4 g5 hD hF Z)
  all_goals go_wp2
  all_goals go_end0
  all_goals exact⟨rfl,ZB HG.out HZ.out.1.2,HZ.out.1.1⟩
theorem YU (b o c:Nat) (h:Nat->Hd) (A:Ar) (n:Nat) (s:ByteArray) (w:World) (hn:n<=1000) (H:Z4 w b o 3 h A):
  Calls Tryz.prog 189 #[.agg #[.slice (some ⟨b,o,none⟩) 3 c],.int .i64 n,.string s] w fun e w'=>e=.returned (.tuple #[])∧w.grownBy w' (some b)∧∃ h',Z4 w' b o 3 h' (A.set 2 (dvWrite (dev A 2) ((n / 2:Nat):Int) ((512+n / 2:Nat):Int) s.data.toList).1):=by
 obtain⟨W,hW⟩:∃ W,W=w.alloc (.cells #[.slice (some ⟨b,o,none⟩) 3 c] 26):=⟨_,rfl⟩;have hB:Below w.heap.size w W:=by rw[hW]; go_grown
 have c0:W.cell? ⟨w.heap.size,0,none⟩=some (.slice (some ⟨b,o,none⟩) 3 c):=by rw[hW]; simp
 have hz:W.heap.size=w.heap.size+1:=by rw[hW]; simp
 have HP:=hid (And.intro hB (And.intro hz (And.intro c0 (H.below hB))));obtain⟨_,_,t4,t5⟩:=(H.below hB).arr.three;have C1:=hid (fun wx (g:Below W.heap.size W wx)=>WZ (h 2).x (h 2).p (h 2).c (h 2).y (h 2).q (h 2).d ((n / 2:Nat):Int) ((512+n / 2:Nat):Int) s (dev A 2) wx (((H.below hB).arr.below g).dv 2 (by omega)))
 generalize (dvWrite (dev A 2) ((n / 2:Nat):Int) ((512+n / 2:Nat):Int) s.data.toList)=r0 at C1;have u1:IntKind.i64.wrap ((n:Int) / 2)=((n / 2:Nat):Int):=by rw[IntWalk.i64_in _ (by omega)]; omega
 have CP:=hid (fun wx=>YQ n wx hn)
 generalize ((512+n / 2:Nat):Int)=R at C1 CP;generalize ((n / 2:Nat):Int)=Q at C1 u1;clear hB hz H hn;go_enter Tryz.func189,Tryz.ntmps189
 go_wp2_with fail
 rw[<- hW];clear hW;go_region_with (first | (go_at_call 118; refine (CP.out _).mono ?_; rintro _ w9 ⟨rfl,h9⟩; (have h8:=h9.symm); subst h8) | (go_at_call 197; refine (C1.out _ ((Below.refl _ W).drew)).mono ?_; rintro _ w4 ⟨x,p,e,y,q,d,rfl,hD,hF,g4⟩; (have g5:=undrew g4); (have Z:=stored (c:=e) (d:=d) HP.out.2.2.2 (show 2<3 by omega) g5 hD); (have z0:w4.cell? ⟨b,o+4,none⟩=some (.slice (h 2).x (h 2).p (h 2).c):=Z.1.1); (have z1:w4.cell? ⟨b,o+5,none⟩=some (.slice (h 2).y (h 2).q (h 2).d):=Z.1.2.1); (have z2:w4.frozen? ⟨b,o+4,none⟩=false:=Z.1.2.2.1); (have z3:w4.frozen? ⟨b,o+5,none⟩=false:=Z.1.2.2.2); (have zb:=(g5.cell (p:=⟨w.heap.size,0,none⟩) (by show w.heap.size<W.heap.size; rw[HP.out.2.1]; omega)).trans HP.out.2.2.1); (have HZ:=hid Z.2); clear g4 g5 hD hF Z))
 all_goals go_wp2
 all_goals go_end0
 all_goals exact⟨rfl,ZB (ZC (b:=b) HP.out.1) HZ.out.2,HZ.out.1⟩
theorem WI (b o c:Nat) (h:Nat->Hd) (A:Ar) (n:Nat) (w:World) (hn:n<=1000) (H:Z4 w b o 3 h A):
  Calls Tryz.prog 188 #[.agg #[.slice (some ⟨b,o,none⟩) 3 c],.int .i64 n] w fun e w'=>e=.returned (.tuple #[])∧w.grownBy w' (some b)∧∃ h',Z4 w' b o 3 h' (A.set 2 (dvLose (dev A 2) ((n / 2:Nat):Int)).1):=by
 obtain⟨W,hW⟩:∃ W,W=w.alloc (.cells #[.slice (some ⟨b,o,none⟩) 3 c] 26):=⟨_,rfl⟩;have hB:Below w.heap.size w W:=by rw[hW]; go_grown
 have c0:W.cell? ⟨w.heap.size,0,none⟩=some (.slice (some ⟨b,o,none⟩) 3 c):=by rw[hW]; simp
 have hz:W.heap.size=w.heap.size+1:=by rw[hW]; simp
 have HP:=hid (And.intro hB (And.intro hz (And.intro c0 (H.below hB))));obtain⟨_,_,t4,t5⟩:=(H.below hB).arr.three;have C1:=hid (fun wx (g:Below W.heap.size W wx)=>Z21 (h 2).x (h 2).p (h 2).c (h 2).y (h 2).q (h 2).d ((n / 2:Nat):Int) (dev A 2) wx (((H.below hB).arr.below g).dv 2 (by omega)))
 generalize (dvLose (dev A 2) ((n / 2:Nat):Int))=r0 at C1;have u1:IntKind.i64.wrap ((n:Int) / 2)=((n / 2:Nat):Int):=by rw[IntWalk.i64_in _ (by omega)]; omega
 generalize ((n / 2:Nat):Int)=Q at C1 u1;clear hB hz H hn;go_enter Tryz.func188,Tryz.ntmps188
 go_wp2_with fail
 rw[<- hW];clear hW;go_region_with (go_at_call 22; refine (C1.out _ ((Below.refl _ W).drew)).mono ?_; rintro _ w4 ⟨x,p,e,y,q,d,rfl,hD,hF,g4⟩; (have g5:=undrew g4); (have Z:=stored (c:=e) (d:=d) HP.out.2.2.2 (show 2<3 by omega) g5 hD); (have z0:w4.cell? ⟨b,o+4,none⟩=some (.slice (h 2).x (h 2).p (h 2).c):=Z.1.1); (have z1:w4.cell? ⟨b,o+5,none⟩=some (.slice (h 2).y (h 2).q (h 2).d):=Z.1.2.1); (have z2:w4.frozen? ⟨b,o+4,none⟩=false:=Z.1.2.2.1); (have z3:w4.frozen? ⟨b,o+5,none⟩=false:=Z.1.2.2.2); (have zb:=(g5.cell (p:=⟨w.heap.size,0,none⟩) (by show w.heap.size<W.heap.size; rw[HP.out.2.1]; omega)).trans HP.out.2.2.1); (have HZ:=hid Z.2); clear g4 g5 hD hF Z)
 all_goals go_wp2
 all_goals go_end0
 all_goals exact⟨rfl,ZB (ZC (b:=b) HP.out.1) HZ.out.2,HZ.out.1⟩
end Go.Proofs.YtdnacpbgodooaaaGreatDoor
namespace Go.Proofs.YtdnacpbgodooaaaGreatDoor
open Go.RowKit Go.Lib
theorem QN (a:Option Addr) (n c:Nat) (i:Int) (s:ByteArray) (A:Ar) (w:World) (H:Z5 w a n A) (ht:arTouch A i≠0):
  Calls Tryz.prog 151 #[.agg #[.slice a n c],.int .i64 i,.string s] w (OutA w ([],arTouch A i)):=by
 obtain⟨W,hW⟩:∃ W,W=(w.alloc (.cells #[.slice a n c] 26)).alloc (.cells #[.slice none 0 0] 26):=⟨_,rfl⟩;have hB:Below w.heap.size w W:=by rw[hW]; go_grown
 have hz:W.heap.size=w.heap.size+2:=by rw[hW]; simp
 have rc:W.cell? ⟨w.heap.size+1,0,none⟩=some (.slice none 0 0):=by rw[hW]; simp[go_sem]
 have rf:W.frozen? ⟨w.heap.size+1,0,none⟩=false:=by rw[hW]; simp[go_sem]
 have HT:=hid (Xn a n c i A W (H.below hB));have HP:=hid (And.intro hB (And.intro hz (And.intro rc rf)));have HK:=hid (fun x w' (g:Below w.heap.size w w')=>Zp (x:=x) g)
 generalize arTouch A i=t at HT ht;have ht':(t != 0)=true:=bne_iff_ne.2 ht;rw[hW] at HT;have HE:=hid hW;clear ht hB hz rc rf H hW;go_enter Tryz.func151,Tryz.ntmps151
 go_wp2_with fail
 refine HT.out.mono ?_
 rintro _ w1 ⟨rfl,g1⟩;rw[<- HE.out] at g1;have r1:=(g1.cell (p:=⟨w.heap.size+1,0,none⟩) (by show w.heap.size+1<W.heap.size; rw[HP.out.2.1]; omega)).trans HP.out.2.2.1
 have r2:=(g1.frozen (p:=⟨w.heap.size+1,0,none⟩) (by show w.heap.size+1<W.heap.size; rw[HP.out.2.1]; omega)).trans HP.out.2.2.2
 have y0:=World.cell?_setCell_same w1 ⟨w.heap.size+1,0,none⟩ (.slice none 0 0) r1
 have G1:=hid ((bel3 HP.out.1 g1).setCell (p:=⟨w.heap.size+1,0,none⟩) (by show w.heap.size<=w.heap.size+1; omega) (.slice none 0 0))
 clear g1;go_wp2
 refine bodyPost_ret (v:=.tuple #[.agg #[.slice none 0 0],.int .i64 t]) (by simp[results,Tryz.results151,go_sem,y0]) rfl ?_
 exact HK.out _ _ G1.out
theorem Z0h (a:Option Addr) (n c:Nat) (i:Int) (s:ByteArray) (A:Ar) (w:World) (H:Z5 w a n A) (ht:arTouch A i=0) (hs:24<s.size):
  Calls Tryz.prog 151 #[.agg #[.slice a n c],.int .i64 i,.string s] w (OutA w ([],1)):=by
 obtain⟨W,hW⟩:∃ W,W=(w.alloc (.cells #[.slice a n c] 26)).alloc (.cells #[.slice none 0 0] 26):=⟨_,rfl⟩;have hB:Below w.heap.size w W:=by rw[hW]; go_grown
 have hz:W.heap.size=w.heap.size+2:=by rw[hW]; simp
 have rc:W.cell? ⟨w.heap.size+1,0,none⟩=some (.slice none 0 0):=by rw[hW]; simp[go_sem]
 have rf:W.frozen? ⟨w.heap.size+1,0,none⟩=false:=by rw[hW]; simp[go_sem]
 have HT:=hid (Xn a n c i A W (H.below hB));have HP:=hid (And.intro hB (And.intro hz (And.intro rc rf)));have HK:=hid (fun x w' (g:Below w.heap.size w w')=>Zp (x:=x) g)
 rw[ht,hW] at HT;have hs':(24:Int)<s.size:=by omega
 have HE:=hid hW;clear ht hB hz rc rf H hW;go_enter Tryz.func151,Tryz.ntmps151
 go_wp2_with fail
 refine HT.out.mono ?_
 rintro _ w1 ⟨rfl,g1⟩;rw[<- HE.out] at g1;have r1:=(g1.cell (p:=⟨w.heap.size+1,0,none⟩) (by show w.heap.size+1<W.heap.size; rw[HP.out.2.1]; omega)).trans HP.out.2.2.1
 have r2:=(g1.frozen (p:=⟨w.heap.size+1,0,none⟩) (by show w.heap.size+1<W.heap.size; rw[HP.out.2.1]; omega)).trans HP.out.2.2.2
 have y0:=World.cell?_setCell_same w1 ⟨w.heap.size+1,0,none⟩ (.slice none 0 0) r1
 have G1:=hid ((bel3 HP.out.1 g1).setCell (p:=⟨w.heap.size+1,0,none⟩) (by show w.heap.size<=w.heap.size+1; omega) (.slice none 0 0))
 clear g1;go_wp2
 refine bodyPost_ret (v:=.tuple #[.agg #[.slice none 0 0],.int .i64 1]) (by simp[results,Tryz.results151,go_sem,y0]) rfl ?_
 exact HK.out _ _ G1.out
theorem Z3C (b o c:Nat) (h:Nat->Hd) (k:Nat) (s:ByteArray) (A:Ar) (w:World) (H:Arr w b o 3 h A) (hm:Z2 A=true) (hk:k<many A) (hs:s.size<=24):
  Calls Tryz.prog 151 #[.agg #[.slice (some ⟨b,o,none⟩) 3 c],.int .i64 k,.string s] w (OutA w (put A k s.data.toList,0)):=by
 obtain⟨W,hW⟩:∃ W,W=(w.alloc (.cells #[.slice (some ⟨b,o,none⟩) 3 c] 26)).alloc (.cells #[.slice none 0 0] 26):=⟨_,rfl⟩;have hB:Below w.heap.size w W:=by rw[hW]; go_grown
 have hz:W.heap.size=w.heap.size+2:=by rw[hW]; simp
 have rc:W.cell? ⟨w.heap.size+1,0,none⟩=some (.slice none 0 0):=by rw[hW]; simp[go_sem]
 have rf:W.frozen? ⟨w.heap.size+1,0,none⟩=false:=by rw[hW]; simp[go_sem]
 have c0:W.cell? ⟨w.heap.size,0,none⟩=some (.slice (some ⟨b,o,none⟩) 3 c):=by rw[hW]; simp[go_sem]
 have hmm:=(arMay_iff A).1 hm;have hk64:k<=64:=by omega
 have HA:∀ wx,Below W.heap.size W wx->Z5 wx (some ⟨b,o,none⟩) 3 A:=fun wx g=>.inr ⟨b,o,h,rfl,(H.below hB).below g⟩
 have HT:=hid (Xn (some ⟨b,o,none⟩) 3 c k A W (HA W (Below.refl _ _)));have ht:arTouch A k=0:=by rw[arTouch,if_pos hm,if_pos ⟨by omega,by omega⟩]
 rw[ht,hW] at HT;have CR:=hid (fun wx (g:Below W.heap.size W wx)=>Xo (some ⟨b,o,none⟩) 3 c (part k) A wx (HA wx g))
 rw[Zl A (part k) hm (WP k _ hk hmm.2.2.2.2.1)] at CR;have CC:=hid (fun wx (g:Below W.heap.size W wx)=>XI (some ⟨b,o,none⟩) 3 c A wx (HA wx g) (ZN A hm))
 have CN:=hid (fun wx=>U5 k wx (by omega))
 have HL:=hid (ZR A (part k));have H3:=hid (tell_three A (part k));have HPut:=hid (Z4p A k s.data.toList);have HMid:=hid (show mid A k=if (tell A (part k)).2.1=3 then both A (part k) (tell A (part k)).1 else A from rfl)
 generalize put A k s.data.toList=T at HPut;generalize tell A (part k)=r at CR HL H3 HMid HPut;generalize mid A k=A1 at HMid HPut;have hs':¬ (24:Int)<s.size:=by omega
 have HS:=hid hs;have HP:=hid (And.intro hB (And.intro hz (And.intro c0 (And.intro rc rf))));have HE:=hid hW;clear hB hz rc rf c0 H hW HA hm hk hmm ht hs;go_enter Tryz.func151,Tryz.ntmps151
 go_wp2_with fail
 refine HT.out.mono ?_
 rintro _ w1 ⟨rfl,g1⟩;rw[<- HE.out] at g1;have d0:=(g1.cell (p:=⟨w.heap.size,0,none⟩) (by show w.heap.size<W.heap.size; rw[HP.out.2.1]; omega)).trans HP.out.2.2.1
 have G1:=hid g1;clear g1 HT HE;go_upto_region 6 with fail
 clear hs';go_cut [9,10,11] (fun s9 s10 s11 wx=>s9=.string (str r.1)∧s10=.int .i64 r.2.1∧s11=.int .i64 r.2.2∧Below W.heap.size W wx)
 case first=>
  go_region_held3 (fun w'=>w'.cell? ⟨w.heap.size,0,none⟩=some (.slice (some ⟨b,o,none⟩) 3 c)) (go_keep)
   (first | (go_at_call 119; refine (CN.out _).mono ?_; rintro _ w9 ⟨rfl,h9⟩; (have h8:=h9.symm); subst h8) | (go_at_call 59; refine (CR.out _ G1.out.drew).mono ?_; rintro _ w9 ⟨rfl,g9⟩; (have G9:=hid (bel3 G1.out.drew g9)); (have j0:=(G9.out.cell (p:=⟨w.heap.size,0,none⟩) (by show w.heap.size<W.heap.size; rw[HP.out.2.1]; omega)).trans HP.out.2.2.1); clear g9))
  all_goals (go_wp2_with fail; go_meet)
  all_goals exact⟨rfl,rfl,rfl,G9.out⟩
 case rest=>
  obtain⟨rfl,rfl,rfl,hB⟩:=hcut;have G2:=hid hB;clear hB d0 G1 CR;have d0:=(G2.out.cell (p:=⟨w.heap.size,0,none⟩) (by show w.heap.size<W.heap.size; rw[HP.out.2.1]; omega)).trans HP.out.2.2.1
  go_wp2_with fail
  refine (CC.out _ G2.out).mono ?_
  rintro _ w3 ⟨a3,c3,rfl,h3,g3⟩
  rcases h3 with ⟨h30,_⟩ | ⟨b3,hd3,rfl,hb3,hf3⟩
  ·omega
  have hst:=XJ (pr:=w.heap.size+1) (cc:=c3) HP.out.1 (by omega) (by rw[HP.out.2.1]; omega) HP.out.2.2.2.1 HP.out.2.2.2.2 (bel3 G2.out g3) (Nat.le_trans G2.out.size hb3) hf3
  have S3:=hid hst;clear hst hf3 hb3 g3 d0 G2 CC;go_upto_region 8 with fail
  obtain⟨W3,hW3⟩:∃ W3,W3=w3.alloc (.cells #[.slice (some ⟨b3,0,none⟩) 3 c3] 26):=⟨_,rfl⟩;rw[<- hW3] at S3 ⊢;clear hW3;generalize w3.heap.size=pc at S3 ⊢
  by_cases h3:r.2.1=3
  ·have h3':(r.2.1==3)=true:=beq_iff_eq.2 h3
   have HM:Hid (A1=both A (part k) r.1):=by show _=_; rw[HMid.out,if_pos h3]
   obtain⟨h3d,f3⟩:=S3.out.fr;have CW:=hid (fun wx (g:Below W3.heap.size W3 wx)=>XA b3 0 c3 h3d A (part k) (str r.1) wx (f3.below g))
   rw[str_list,<- HM.out] at CW;have d1:=S3.out.cb;clear f3 h3 HMid HM;go_upto_region 9 with fail
   clear h3';go_cut [] (fun wx=>WrI w (w.heap.size+1) pc b3 c3 A1 wx)
   case first=>
    go_region_held3 (fun w'=>w'.cell? ⟨pc,0,none⟩=some (.slice (some ⟨b3,0,none⟩) 3 c3)) (go_keep)
     (first | (go_at_call 119; refine (CN.out _).mono ?_; rintro _ w9 ⟨rfl,h9⟩; (have h8:=h9.symm); subst h8) | (go_at_call 187; refine (CW.out _ ((Below.refl _ W3).drew)).mono ?_; rintro _ w9 ⟨rfl,g9,f9⟩; (have S9:=hid (S3.out.drew.grown g9 f9)); (have j0:=S9.out.cb); clear g9 f9))
    all_goals (go_wp2_with fail; go_meet)
    all_goals exact S9.out
   case rest=>
    have S4:=hid hcut;clear hcut S3 CW d1;obtain⟨h4,f4⟩:=S4.out.fr;have CW:=hid (XA b3 0 c3 h4 A1 k s _ f4);have d1:=S4.out.cb;clear f4;go_wp2_with fail
    refine CW.out.mono ?_
    rintro _ w5 ⟨rfl,g5,f5⟩;have S5:=hid (S4.out.grown g5 f5);clear g5 f5 CW d1 S4;generalize both A1 k s.data.toList=A2 at S5 HPut
    by_cases e0:r.2.2=0
    ·have e0':(r.2.2 != 0)=false:=bne_eq_false_iff_eq.2 e0
     have hl:=HL.out e0;have HPT:=hid (HPut.out.trans (if_pos e0));have CD:=hid (fun wx=>Y3 (str r.1) s wx (by rw[str_size,hl]; omega) (by rw[str_size,hl]; exact HS.out))
     rw[str_list,Z09 _ _ hl (by rw[ba_len]; exact HS.out)] at CD
     obtain⟨h5,f5⟩:=S5.out.fr;have CP:=hid (fun wx (g:Below w5.heap.size w5 wx)=>YU b3 0 c3 h5 A2 k (str (xors (pad s.data.toList) r.1)) wx (by omega) (f5.below g))
     rw[str_list] at CP;have d1:=S5.out.cb;generalize xors (pad s.data.toList) r.1=X at CD CP HPT;clear f5 e0 hl HPut HL;go_wp2_with fail
     go_region_held3 (fun w'=>w'.cell? ⟨pc,0,none⟩=some (.slice (some ⟨b3,0,none⟩) 3 c3)) (go_keep)
      (first | (go_at_call 120; refine (CD.out _).mono ?_; rintro _ w6 ⟨rfl,g6⟩; (have G6:=hid (undrew g6)); (have j0:=(S5.out.to G6.out).cb); clear g6) | (go_at_call 189; refine (CP.out _ G6.out).mono ?_; rintro _ w7 ⟨rfl,g7,f7⟩; (have S7:=hid ((S5.out.to G6.out).grown g7 f7)); (have j1:=S7.out.cb); clear g7 f7))
     all_goals have rc:=S7.out.rc
     all_goals have rf:=S7.out.rf
     all_goals have y0:=World.cell?_setCell_same w7 ⟨w.heap.size+1,0,none⟩ (.slice (some ⟨b3,0,none⟩) 3 c3) rc
     all_goals go_wp2
     all_goals refine bodyPost_ret (v:=.tuple #[.agg #[.slice (some ⟨b3,0,none⟩) 3 c3],.int .i64 0]) (by simp[results,Tryz.results151,go_sem,y0]) rfl ?_
     all_goals (rw[HPT.out]; exact S7.out.out)
    ·have e0':(r.2.2 != 0)=true:=bne_iff_ne.2 e0
     have HPT:=hid (HPut.out.trans (if_neg e0));obtain⟨h5,f5⟩:=S5.out.fr;have CP:=hid (WI b3 0 c3 h5 A2 k w5 (by omega) f5)
     have d1:=S5.out.cb;clear f5 e0 HPut HL;go_wp2_with fail
     refine CP.out.mono ?_
     rintro _ w7 ⟨rfl,g7,f7⟩;have S7:=hid (S5.out.grown g7 f7);clear g7 f7 d1 S5;have d1:=S7.out.cb;have rc:=S7.out.rc;have rf:=S7.out.rf;have y0:=World.cell?_setCell_same w7 ⟨w.heap.size+1,0,none⟩ (.slice (some ⟨b3,0,none⟩) 3 c3) rc
     go_wp2
     refine bodyPost_ret (v:=.tuple #[.agg #[.slice (some ⟨b3,0,none⟩) 3 c3],.int .i64 0]) (by simp[results,Tryz.results151,go_sem,y0]) rfl ?_
     rw[HPT.out]; exact S7.out.out
  ·have h3':(r.2.1==3)=false:=beq_eq_false_iff_ne.2 h3
   have HM:Hid (A1=A):=by show _=_; rw[HMid.out,if_neg h3]
   have S4:=S3;rw[<- HM.out] at S4;clear h3 HMid HM S3;obtain⟨h4,f4⟩:=S4.out.fr;have CW:=hid (XA b3 0 c3 h4 A1 k s _ f4);have d1:=S4.out.cb;clear f4;go_wp2_with fail
   refine CW.out.mono ?_
   rintro _ w5 ⟨rfl,g5,f5⟩;have S5:=hid (S4.out.grown g5 f5);clear g5 f5 CW d1 S4;generalize both A1 k s.data.toList=A2 at S5 HPut
   by_cases e0:r.2.2=0
   ·have e0':(r.2.2 != 0)=false:=bne_eq_false_iff_eq.2 e0
    have hl:=HL.out e0;have HPT:=hid (HPut.out.trans (if_pos e0));have CD:=hid (fun wx=>Y3 (str r.1) s wx (by rw[str_size,hl]; omega) (by rw[str_size,hl]; exact HS.out))
    rw[str_list,Z09 _ _ hl (by rw[ba_len]; exact HS.out)] at CD
    obtain⟨h5,f5⟩:=S5.out.fr;have CP:=hid (fun wx (g:Below w5.heap.size w5 wx)=>YU b3 0 c3 h5 A2 k (str (xors (pad s.data.toList) r.1)) wx (by omega) (f5.below g))
    rw[str_list] at CP;have d1:=S5.out.cb;generalize xors (pad s.data.toList) r.1=X at CD CP HPT;clear f5 e0 hl HPut HL;go_wp2_with fail
    go_region_held3 (fun w'=>w'.cell? ⟨pc,0,none⟩=some (.slice (some ⟨b3,0,none⟩) 3 c3)) (go_keep)
     (first | (go_at_call 120; refine (CD.out _).mono ?_; rintro _ w6 ⟨rfl,g6⟩; (have G6:=hid (undrew g6)); (have j0:=(S5.out.to G6.out).cb); clear g6) | (go_at_call 189; refine (CP.out _ G6.out).mono ?_; rintro _ w7 ⟨rfl,g7,f7⟩; (have S7:=hid ((S5.out.to G6.out).grown g7 f7)); (have j1:=S7.out.cb); clear g7 f7))
    all_goals have rc:=S7.out.rc
    all_goals have rf:=S7.out.rf
    all_goals have y0:=World.cell?_setCell_same w7 ⟨w.heap.size+1,0,none⟩ (.slice (some ⟨b3,0,none⟩) 3 c3) rc
    all_goals go_wp2
    all_goals refine bodyPost_ret (v:=.tuple #[.agg #[.slice (some ⟨b3,0,none⟩) 3 c3],.int .i64 0]) (by simp[results,Tryz.results151,go_sem,y0]) rfl ?_
    all_goals (rw[HPT.out]; exact S7.out.out)
   ·have e0':(r.2.2 != 0)=true:=bne_iff_ne.2 e0
    have HPT:=hid (HPut.out.trans (if_neg e0));obtain⟨h5,f5⟩:=S5.out.fr;have CP:=hid (WI b3 0 c3 h5 A2 k w5 (by omega) f5)
    have d1:=S5.out.cb;clear f5 e0 HPut HL;go_wp2_with fail
    refine CP.out.mono ?_
    rintro _ w7 ⟨rfl,g7,f7⟩;have S7:=hid (S5.out.grown g7 f7);clear g7 f7 d1 S5;have d1:=S7.out.cb;have rc:=S7.out.rc;have rf:=S7.out.rf;have y0:=World.cell?_setCell_same w7 ⟨w.heap.size+1,0,none⟩ (.slice (some ⟨b3,0,none⟩) 3 c3) rc
    go_wp2
    refine bodyPost_ret (v:=.tuple #[.agg #[.slice (some ⟨b3,0,none⟩) 3 c3],.int .i64 0]) (by simp[results,Tryz.results151,go_sem,y0]) rfl ?_
    rw[HPT.out]; exact S7.out.out
theorem Z1x (a:Option Addr) (n c:Nat) (i:Int) (s:ByteArray) (A:Ar) (w:World) (H:Z5 w a n A):
  Calls Tryz.prog 151 #[.agg #[.slice a n c],.int .i64 i,.string s] w (OutA w (arWrite A i s.data.toList)):=by
 unfold arWrite
 by_cases ht:arTouch A i=0
 ·rw[if_pos ht]
  by_cases hs:24<s.data.toList.length
  ·rw[if_pos hs]
   exact Z0h a n c i s A w H ht (by rw[ba_len] at hs; exact hs)
  ·rw[if_neg hs]
   obtain⟨hm,h0,h1⟩:=Xh A i ht;obtain⟨k,rfl⟩:∃ k:Nat,i=k:=⟨i.toNat,by omega⟩
   obtain⟨rfl,b,o,h,rfl,HX⟩:=Z8 H hm;rw[show (k:Int).toNat=k by omega]
   exact Z3C b o c h k s A w HX hm (by omega) (by rw[ba_len] at hs; omega)
 ·rw[if_neg ht]
  exact QN a n c i s A w H ht
end Go.Proofs.YtdnacpbgodooaaaGreatDoor
