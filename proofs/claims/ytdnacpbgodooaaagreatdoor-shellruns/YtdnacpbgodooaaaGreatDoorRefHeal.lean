import Derived.Test.YtdnacpbgodooaaaGreatDoorRefT
import Derived.Test.YtdnacpbgodooaaaGreatDoorScrubStep
set_option maxHeartbeats 16000000
set_option maxRecDepth 8000
namespace Go.Proofs.YtdnacpbgodooaaaGreatDoor
open Go.RowKit Go.Lib
theorem VX (b o c:Nat) (h:Nat->Hd) (A:Ar) (k:Nat) (w:World) (H:Arr w b o 3 h A) (hm:Z2 A=true) (hk:k<many A):
  Calls Tryz.prog 132 #[.agg #[.slice (some ⟨b,o,none⟩) 3 c],.int .i64 k] w fun e w'=>e=.returned (.tuple #[.bool (right A k),.bool (known A k)])∧Below w.heap.size w w':=by
 obtain⟨W,hW⟩:∃ W,W=w.alloc (.cells #[.slice (some ⟨b,o,none⟩) 3 c] 26):=⟨_,rfl⟩;have hB:Below w.heap.size w W:=by rw[hW]; go_grown
 have hz:W.heap.size=w.heap.size+1:=by rw[hW]; simp
 have c0:W.cell? ⟨w.heap.size,0,none⟩=some (.slice (some ⟨b,o,none⟩) 3 c):=by rw[hW]; simp
 have hmm:=(arMay_iff A).1 hm;have hk64:k<=64:=by omega
 have HA:∀ wx,Below W.heap.size W wx->Z5 wx (some ⟨b,o,none⟩) 3 A:=fun wx g=>.inr ⟨b,o,h,rfl,(H.below hB).below g⟩
 have C1:=ZH (some ⟨b,o,none⟩) 3 c k A W (HA W (Below.refl _ _));have C2:=fun wx (g:Below W.heap.size W wx)=>ZH (some ⟨b,o,none⟩) 3 c (part k) A wx (HA wx g)
 rw[Zl A (part k) hm (WP k _ hk hmm.2.2.2.2.1)] at C2;rw[Zl A k hm hk,hW] at C1;have l1:=ZR A k;have l2:=ZR A (part k);have CN:=hid (fun wx=>Yz k wx (by omega))
 have C3:=hid (fun wx (g:Below W.heap.size W wx)=>Xd (h 2).x (h 2).p (h 2).c (h 2).y (h 2).q (h 2).d ((k / 2:Nat):Int) ((512+k / 2:Nat):Int) (dev A 2) wx (((H.below hB).below g).dv 2 (by omega)))
 change Hid (∀ wx,Below W.heap.size W wx->Calls Tryz.prog _ _ wx fun e w'=>e=.returned (.tuple #[.string (str (pari A k).1),.int .i64 (pari A k).2])∧Below wx.heap.size wx w') at C3
 unfold right known;generalize tell A k=r1 at C1 l1;generalize tell A (part k)=r2 at C2 l2;generalize pari A k=r3 at C3;have u1:IntKind.i64.wrap ((k:Int) / 2)=((k / 2:Nat):Int):=by rw[IntWalk.i64_in _ (by omega)]; omega
 have u2:IntKind.i64.wrap (512+((k / 2:Nat):Int))=((512+k / 2:Nat):Int):=by rw[IntWalk.i64_in _ (by omega)]; omega
 have H1:=hid C1;have H2:=hid C2;have HP:=hid (And.intro hB (And.intro hW (And.intro hz (And.intro c0 (H.below hB)))));have HL:=hid (And.intro l1 l2);clear C1 C2 hB hW hz c0 HA H hm hk hmm l1 l2;go_enter Tryz.func132,Tryz.ntmps132
 go_wp2_with fail
 refine H1.out.mono ?_
 rintro _ w1 ⟨rfl,g1⟩;rw[<- HP.out.2.1] at g1;have d0:=(g1.cell (p:=⟨w.heap.size,0,none⟩) (by show w.heap.size<W.heap.size; rw[HP.out.2.2.1]; omega)).trans HP.out.2.2.2.1
 have G1:=hid g1;clear g1 H1;go_upto_region 2 with fail
 go_cut [9,10,11] (fun s9 s10 s11 wx=>s9=.string (str r2.1)∧s10=.int .i64 r2.2.1∧s11=.int .i64 r2.2.2∧Below W.heap.size W wx)
 case first=>
  go_region_held3 (fun w'=>w'.cell? ⟨w.heap.size,0,none⟩=some (.slice (some ⟨b,o,none⟩) 3 c)) (go_keep)
   (first | (go_at_call 133; refine (CN.out _).mono ?_; rintro _ w9 ⟨rfl,h9⟩; (have h8:=h9.symm); subst h8) | (go_at_call 77; refine (H2.out _ G1.out.drew).mono ?_; rintro _ w9 ⟨rfl,g9⟩; (have G9:=hid (bel3 G1.out.drew g9)); (have j0:=(G9.out.cell (p:=⟨w.heap.size,0,none⟩) (by show w.heap.size<W.heap.size; rw[HP.out.2.2.1]; omega)).trans HP.out.2.2.2.1); clear g9))
  all_goals (go_wp2_with fail; go_meet)
  all_goals exact⟨rfl,rfl,rfl,G9.out⟩
 case rest=>
  obtain⟨rfl,rfl,rfl,hB⟩:=hcut;have G2:=hid hB;clear hB G1 d0;have d0:=(G2.out.cell (p:=⟨w.heap.size,0,none⟩) (by show w.heap.size<W.heap.size; rw[HP.out.2.2.1]; omega)).trans HP.out.2.2.2.1
  obtain⟨_,_,t4,t5⟩:=(HP.out.2.2.2.2.below G2.out).three
  by_cases e1:r1.2.2=0
  ·have e1':(r1.2.2 != 0)=false:=bne_eq_false_iff_eq.2 e1
   by_cases e2:r2.2.2=0
   ·have e2':(r2.2.2 != 0)=false:=bne_eq_false_iff_eq.2 e2
    have HK:Hid (decide (r1.2.2=0∧r2.2.2=0)=true):=decide_eq_true (show r1.2.2=0∧r2.2.2=0 from ⟨e1,e2⟩);have l1:=HL.out.1 e1;have l2:=HL.out.2 e2;have CD:=hid (fun wx=>Yd (str r1.1) (str r2.1) wx (by rw[str_size,l1]; omega) (by rw[str_size,str_size,l1,l2]; exact Nat.le_refl _) (by rw[str_size,l2]; omega))
    rw[str_list,str_list] at CD;clear e1 e2 l1 l2;generalize ((512+k / 2:Nat):Int)=R at C3 u2;generalize ((k / 2:Nat):Int)=Q at C3 u1 u2;go_wp2_with fail
    refine (C3.out _ G2.out).mono ?_
    rintro _ w3 ⟨rfl,g3⟩;have G3:=hid (bel3 G2.out g3);clear g3 d0 t4 t5
    by_cases e3:r3.2=0
    ·have e3':(r3.2==0)=true:=beq_iff_eq.2 e3
     have HR:Hid (((str r3.1).toList==(str (xors r1.1 r2.1)).toList)=(decide (r1.2.2=0∧r2.2.2=0)&&decide (r3.2=0∧r3.1=xors r1.1 r2.1))):=by show _=_; rw[Z1D,HK.out]; simp[e3]
     clear e3;go_wp2_with fail
     refine (CD.out _).mono ?_
     rintro _ w4 ⟨rfl,g4⟩;go_wp2
     go_ret2
     exact⟨by rw[<- HR.out,HK.out] <;> rfl,bel3 HP.out.1 (bel3 G3.out g4)⟩
    ·have e3':(r3.2==0)=false:=beq_eq_false_iff_ne.2 e3
     have HR:Hid (false=(decide (r1.2.2=0∧r2.2.2=0)&&decide (r3.2=0∧r3.1=xors r1.1 r2.1))):=by show _=_; simp[e3]
     clear e3;go_wp2
     go_ret2
     exact⟨by rw[<- HR.out,HK.out] <;> rfl,bel3 HP.out.1 G3.out⟩
   ·have e2':(r2.2.2 != 0)=true:=bne_iff_ne.2 e2
    have HK:Hid (decide (r1.2.2=0∧r2.2.2=0)=false):=decide_eq_false (show ¬ (r1.2.2=0∧r2.2.2=0) from fun x=>e2 x.2)
    clear e1 e2;go_wp2
    go_ret2
    exact⟨by rw[HK.out] <;> rfl,bel3 HP.out.1 G2.out⟩
  ·have e1':(r1.2.2 != 0)=true:=bne_iff_ne.2 e1
   have HK:Hid (decide (r1.2.2=0∧r2.2.2=0)=false):=decide_eq_false (show ¬ (r1.2.2=0∧r2.2.2=0) from fun x=>e1 x.1)
   clear e1;go_wp2
   go_ret2
   exact⟨by rw[HK.out] <;> rfl,bel3 HP.out.1 G2.out⟩
end Go.Proofs.YtdnacpbgodooaaaGreatDoor
namespace Go.Proofs.YtdnacpbgodooaaaGreatDoor
open Go.RowKit Go.Lib
theorem Z4i (b o c:Nat) (h:Nat->Hd) (A:Ar) (k:Nat) (w:World) (H:Arr w b o 3 h A) (hm:Z2 A=true) (hk:k<many A):
  Calls Tryz.prog 76 #[.agg #[.slice (some ⟨b,o,none⟩) 3 c],.int .i64 k] w fun e w'=>e=.returned (.tuple #[.int .i64 (bad1 A k),.int .i64 0])∧Below w.heap.size w w':=by
 obtain⟨W,hW⟩:∃ W,W=w.alloc (.cells #[.slice (some ⟨b,o,none⟩) 3 c] 26):=⟨_,rfl⟩;have hB:Below w.heap.size w W:=by rw[hW]; go_grown
 have hz:W.heap.size=w.heap.size+1:=by rw[hW]; simp
 have c0:W.cell? ⟨w.heap.size,0,none⟩=some (.slice (some ⟨b,o,none⟩) 3 c):=by rw[hW]; simp
 have hmm:=(arMay_iff A).1 hm;have hk64:k<=64:=by omega
 have C1:=ZU (some ⟨b,o,none⟩) 3 c k A W (.inr ⟨b,o,h,rfl,H.below hB⟩);have ht:arTouch A k=0:=by rw[arTouch,if_pos hm,if_pos ⟨by omega,by omega⟩]
 rw[ht,hW] at C1;have C2:=hid (fun wx (g:Below W.heap.size W wx)=>Xd (h 0).x (h 0).p (h 0).c (h 0).y (h 0).q (h 0).d k k (dev A 0) wx (((H.below hB).below g).dv 0 (by omega)))
 have C3:=hid (fun wx (g:Below W.heap.size W wx)=>Xd (h 1).x (h 1).p (h 1).c (h 1).y (h 1).q (h 1).d k k (dev A 1) wx (((H.below hB).below g).dv 1 (by omega)))
 have C4:=hid (fun wx (g:Below W.heap.size W wx)=>VX b o c h A k wx ((H.below hB).below g) hm hk)
 have HB:Hid (bad1 A k=(if (dvRead (dev A 0) k k).2=0 then 0 else 1)+(if (dvRead (dev A 1) k k).2=0 then 0 else 1)+(if k % 2=0∧right A k=false then 1 else 0)):=rfl
 generalize bad1 A k=Z at HB;generalize right A k=R at C4 HB;generalize known A k=K at C4;generalize dvRead (dev A 0) k k=r0 at C2 HB;generalize dvRead (dev A 1) k k=r1 at C3 HB;have H1:=hid C1;have HP:=hid (And.intro hB (And.intro hW (And.intro hz (And.intro c0 (H.below hB)))));clear C1 hB hW hz c0 H hm hk hmm ht;go_enter Tryz.func76,Tryz.ntmps76
 go_wp2_with fail
 refine H1.out.mono ?_
 rintro _ w1 ⟨rfl,g1⟩;rw[<- HP.out.2.1] at g1;have d0:=(g1.cell (p:=⟨w.heap.size,0,none⟩) (by show w.heap.size<W.heap.size; rw[HP.out.2.2.1]; omega)).trans HP.out.2.2.2.1
 have G1:=hid g1;obtain⟨⟨t0,t1⟩,_,_⟩:=(HP.out.2.2.2.2.below g1).three;clear g1 H1;go_wp2_with fail
 refine (C2.out _ G1.out).mono ?_
 rintro _ w2 ⟨rfl,g2⟩;have G2:=hid (bel3 G1.out g2);clear g2 d0 t0 t1 G1 C2;have d0:=(G2.out.cell (p:=⟨w.heap.size,0,none⟩) (by show w.heap.size<W.heap.size; rw[HP.out.2.2.1]; omega)).trans HP.out.2.2.2.1
 obtain⟨_,⟨t2,t3⟩,_⟩:=(HP.out.2.2.2.2.below G2.out).three
 by_cases e0:r0.2=0
 ·have f0:(r0.2 != 0)=false:=bne_eq_false_iff_eq.2 e0
  by_cases e1:r1.2=0
  ·have f1:(r1.2 != 0)=false:=bne_eq_false_iff_eq.2 e1
   have E0:=hid e0;have E1:=hid e1;clear e0 e1;go_wp2_with fail
   refine (C3.out _ G2.out).mono ?_
   rintro _ w3 ⟨rfl,g3⟩;have G3:=hid (bel3 G2.out g3);clear g3 d0 t2 t3 C3;have d0:=(G3.out.cell (p:=⟨w.heap.size,0,none⟩) (by show w.heap.size<W.heap.size; rw[HP.out.2.2.1]; omega)).trans HP.out.2.2.2.1
   go_wp2_with fail
   refine (C4.out _ G3.out).mono ?_
   rintro _ w4 ⟨rfl,g4⟩;have G4:=hid (bel3 HP.out.1 (bel3 G3.out g4));clear g4 d0
   by_cases h2:k % 2=0
   ·have e:((k:Int).tmod 2==0)=true:=by rw[beq_iff_eq,Int.tmod_eq_emod_of_nonneg (by omega)]; omega
    cases R with
    | true=>
     have HZ:Hid (Z=0):=by show _=_; rw[HB.out,if_pos E0.out,if_pos E1.out,if_neg (fun x=>by cases x.2)]; rfl
     clear HB;go_wp2
     go_ret2
     exact⟨by rw[HZ.out] <;> rfl,G4.out⟩
    | false=>
     have HZ:Hid (Z=1):=by show _=_; rw[HB.out,if_pos E0.out,if_pos E1.out,if_pos ⟨h2,rfl⟩]; rfl
     clear HB;go_wp2
     go_ret2
     exact⟨by rw[HZ.out] <;> rfl,G4.out⟩
   ·have e:((k:Int).tmod 2==0)=false:=by rw[beq_eq_false_iff_ne,Int.tmod_eq_emod_of_nonneg (by omega)]; omega
    have HZ:Hid (Z=0):=by show _=_; rw[HB.out,if_pos E0.out,if_pos E1.out,if_neg (fun x=>h2 x.1)]; rfl
    clear HB;go_wp2
    go_ret2
    exact⟨by rw[HZ.out] <;> rfl,G4.out⟩
  ·have f1:(r1.2 != 0)=true:=bne_iff_ne.2 e1
   have E0:=hid e0;have E1:=hid e1;clear e0 e1;go_wp2_with fail
   refine (C3.out _ G2.out).mono ?_
   rintro _ w3 ⟨rfl,g3⟩;have G3:=hid (bel3 G2.out g3);clear g3 d0 t2 t3 C3;have d0:=(G3.out.cell (p:=⟨w.heap.size,0,none⟩) (by show w.heap.size<W.heap.size; rw[HP.out.2.2.1]; omega)).trans HP.out.2.2.2.1
   go_wp2_with fail
   refine (C4.out _ G3.out).mono ?_
   rintro _ w4 ⟨rfl,g4⟩;have G4:=hid (bel3 HP.out.1 (bel3 G3.out g4));clear g4 d0
   by_cases h2:k % 2=0
   ·have e:((k:Int).tmod 2==0)=true:=by rw[beq_iff_eq,Int.tmod_eq_emod_of_nonneg (by omega)]; omega
    cases R with
    | true=>
     have HZ:Hid (Z=1):=by show _=_; rw[HB.out,if_pos E0.out,if_neg E1.out,if_neg (fun x=>by cases x.2)]; rfl
     clear HB;go_wp2
     go_ret2
     exact⟨by rw[HZ.out] <;> rfl,G4.out⟩
    | false=>
     have HZ:Hid (Z=2):=by show _=_; rw[HB.out,if_pos E0.out,if_neg E1.out,if_pos ⟨h2,rfl⟩]; rfl
     clear HB;go_wp2
     go_ret2
     exact⟨by rw[HZ.out] <;> rfl,G4.out⟩
   ·have e:((k:Int).tmod 2==0)=false:=by rw[beq_eq_false_iff_ne,Int.tmod_eq_emod_of_nonneg (by omega)]; omega
    have HZ:Hid (Z=1):=by show _=_; rw[HB.out,if_pos E0.out,if_neg E1.out,if_neg (fun x=>h2 x.1)]; rfl
    clear HB;go_wp2
    go_ret2
    exact⟨by rw[HZ.out] <;> rfl,G4.out⟩
 ·have f0:(r0.2 != 0)=true:=bne_iff_ne.2 e0
  by_cases e1:r1.2=0
  ·have f1:(r1.2 != 0)=false:=bne_eq_false_iff_eq.2 e1
   have E0:=hid e0;have E1:=hid e1;clear e0 e1;go_wp2_with fail
   refine (C3.out _ G2.out).mono ?_
   rintro _ w3 ⟨rfl,g3⟩;have G3:=hid (bel3 G2.out g3);clear g3 d0 t2 t3 C3;have d0:=(G3.out.cell (p:=⟨w.heap.size,0,none⟩) (by show w.heap.size<W.heap.size; rw[HP.out.2.2.1]; omega)).trans HP.out.2.2.2.1
   go_wp2_with fail
   refine (C4.out _ G3.out).mono ?_
   rintro _ w4 ⟨rfl,g4⟩;have G4:=hid (bel3 HP.out.1 (bel3 G3.out g4));clear g4 d0
   by_cases h2:k % 2=0
   ·have e:((k:Int).tmod 2==0)=true:=by rw[beq_iff_eq,Int.tmod_eq_emod_of_nonneg (by omega)]; omega
    cases R with
    | true=>
     have HZ:Hid (Z=1):=by show _=_; rw[HB.out,if_neg E0.out,if_pos E1.out,if_neg (fun x=>by cases x.2)]; rfl
     clear HB;go_wp2
     go_ret2
     exact⟨by rw[HZ.out] <;> rfl,G4.out⟩
    | false=>
     have HZ:Hid (Z=2):=by show _=_; rw[HB.out,if_neg E0.out,if_pos E1.out,if_pos ⟨h2,rfl⟩]; rfl
     clear HB;go_wp2
     go_ret2
     exact⟨by rw[HZ.out] <;> rfl,G4.out⟩
   ·have e:((k:Int).tmod 2==0)=false:=by rw[beq_eq_false_iff_ne,Int.tmod_eq_emod_of_nonneg (by omega)]; omega
    have HZ:Hid (Z=1):=by show _=_; rw[HB.out,if_neg E0.out,if_pos E1.out,if_neg (fun x=>h2 x.1)]; rfl
    clear HB;go_wp2
    go_ret2
    exact⟨by rw[HZ.out] <;> rfl,G4.out⟩
  ·have f1:(r1.2 != 0)=true:=bne_iff_ne.2 e1
   have E0:=hid e0;have E1:=hid e1;clear e0 e1;go_wp2_with fail
   refine (C3.out _ G2.out).mono ?_
   rintro _ w3 ⟨rfl,g3⟩;have G3:=hid (bel3 G2.out g3);clear g3 d0 t2 t3 C3;have d0:=(G3.out.cell (p:=⟨w.heap.size,0,none⟩) (by show w.heap.size<W.heap.size; rw[HP.out.2.2.1]; omega)).trans HP.out.2.2.2.1
   go_wp2_with fail
   refine (C4.out _ G3.out).mono ?_
   rintro _ w4 ⟨rfl,g4⟩;have G4:=hid (bel3 HP.out.1 (bel3 G3.out g4));clear g4 d0
   by_cases h2:k % 2=0
   ·have e:((k:Int).tmod 2==0)=true:=by rw[beq_iff_eq,Int.tmod_eq_emod_of_nonneg (by omega)]; omega
    cases R with
    | true=>
     have HZ:Hid (Z=2):=by show _=_; rw[HB.out,if_neg E0.out,if_neg E1.out,if_neg (fun x=>by cases x.2)]; rfl
     clear HB;go_wp2
     go_ret2
     exact⟨by rw[HZ.out] <;> rfl,G4.out⟩
    | false=>
     have HZ:Hid (Z=3):=by show _=_; rw[HB.out,if_neg E0.out,if_neg E1.out,if_pos ⟨h2,rfl⟩]; rfl
     clear HB;go_wp2
     go_ret2
     exact⟨by rw[HZ.out] <;> rfl,G4.out⟩
   ·have e:((k:Int).tmod 2==0)=false:=by rw[beq_eq_false_iff_ne,Int.tmod_eq_emod_of_nonneg (by omega)]; omega
    have HZ:Hid (Z=2):=by show _=_; rw[HB.out,if_neg E0.out,if_neg E1.out,if_neg (fun x=>h2 x.1)]; rfl
    clear HB;go_wp2
    go_ret2
    exact⟨by rw[HZ.out] <;> rfl,G4.out⟩
theorem Z32 (a:Option Addr) (n c:Nat) (i:Int) (A:Ar) (w:World) (H:Z5 w a n A):
  Calls Tryz.prog 76 #[.agg #[.slice a n c],.int .i64 i] w fun e w'=>e=.returned (.tuple #[.int .i64 (Tq A i).1,.int .i64 (Tq A i).2])∧Below w.heap.size w w':=by
 by_cases ht:arTouch A i=0
 ·obtain⟨hm,h0,h1⟩:=Xh A i ht
  obtain⟨k,rfl⟩:∃ k:Nat,i=k:=⟨i.toNat,by omega⟩
  obtain⟨rfl,b,o,h,rfl,HX⟩:=Z8 H hm;rw[Tq,if_pos ht,show (k:Int).toNat=k by omega]
  exact Z4i b o c h A k w HX hm (by omega)
 ·obtain⟨W,hW⟩:∃ W,W=w.alloc (.cells #[.slice a n c] 26):=⟨_,rfl⟩
  have hB:Below w.heap.size w W:=by rw[hW]; go_grown
  have C1:=ZU a n c i A W (H.below hB);rw[hW] at C1;rw[Tq,if_neg ht];generalize arTouch A i=t at C1 ht;have e1:(t != 0)=true:=bne_iff_ne.2 ht;have H1:=hid C1;have HP:=hid (And.intro hB hW);clear C1 hB hW H ht;go_enter Tryz.func76,Tryz.ntmps76
  go_wp2_with fail
  refine H1.out.mono ?_
  rintro _ w1 ⟨rfl,g1⟩;rw[<- HP.out.2] at g1;go_wp2
  go_ret2
  exact⟨rfl,bel3 HP.out.1 g1⟩
end Go.Proofs.YtdnacpbgodooaaaGreatDoor
namespace Go.Proofs.YtdnacpbgodooaaaGreatDoor
open Go.RowKit Go.Lib
theorem Qe (a:Option Addr) (n c:Nat) (A:Ar) (w:World) (H:Z5 w a n A):
  Calls Tryz.prog 37 #[.agg #[.slice a n c]] w (Z0t w (arHealth A)):=by
 obtain⟨W,hW⟩:∃ W,W=w.alloc (.cells #[.slice a n c] 26):=⟨_,rfl⟩;have hB:Below w.heap.size w W:=by rw[hW]; go_grown
 have hz:W.heap.size=w.heap.size+1:=by rw[hW]; simp
 have c0:W.cell? ⟨w.heap.size,0,none⟩=some (.slice a n c):=by rw[hW]; simp
 have C1:=Xz a n c A W (H.below hB);rw[hW] at C1;unfold arHealth;cases hm:Z2 A with
 | false=>
  rw[hm] at C1;have H1:=hid C1;have HP:=hid (And.intro hB hW);clear C1 hB hz c0 hW H hm;go_enter Tryz.func37,Tryz.ntmps37
  go_wp2_with fail
  refine H1.out.mono ?_
  rintro _ w1 ⟨rfl,g1⟩;rw[<- HP.out.2] at g1;go_wp2
  go_ret3
  exact⟨⟨none,0,0,rfl,intsAt_none _ _,newS_nil _ _⟩,bel3 HP.out.1 g1⟩
 | true=>
  rw[hm] at C1;rw[if_pos rfl];have hmm:=(arMay_iff A).1 hm;have hN:many A<=64:=hmm.2.2.2.1;obtain⟨rfl,b,o,h,rfl,HX⟩:=Z8 H hm;have HA:∀ wx,Below W.heap.size W wx->Z5 wx (some ⟨b,o,none⟩) 3 A:=fun wx g=>.inr ⟨b,o,h,rfl,(HX.below hB).below g⟩
  have CB:=hid (fun (k:Nat) (hk:k<many A) wx (g:Below W.heap.size W wx)=>Z32 (some ⟨b,o,none⟩) 3 c k A wx (HA wx g))
  have CR:=hid (fun (k:Nat) wx (g:Below W.heap.size W wx)=>ZH (some ⟨b,o,none⟩) 3 c k A wx (HA wx g))
  have BI:=hid (fun k hk=>Z2z A hm k hk)
  have H1:=hid C1;have hp:many A=(h 0).p:=(HX.dv 0 (by omega)).sn.symm
  rw[hp] at CB BI hN;rw[hp];have HP:=hid (And.intro hB (And.intro hW (And.intro hz (And.intro c0 (And.intro (HX.below hB).lt ((HX.below hB).three.1.1))))));clear C1 hB hz c0 hW H hm HX hmm HA hp;generalize (h 0).p=N at CB BI hN HP;generalize (h 0).x=xx at HP;generalize (h 0).c=cc at HP;go_enter Tryz.func37,Tryz.ntmps37
  go_wp2_with fail
  refine H1.out.mono ?_
  rintro _ w1 ⟨rfl,g1⟩;rw[<- HP.out.2.1] at g1;have G2:=hid g1;clear g1 H1;go_wp2_with fail
  go_loopw [5,6,7] (fun s5 v s7 wr=>∃ k:Nat,k<=N∧s5=.int .i64 (badN A k)∧s7=.int .i64 k∧Hid (HlI W (Ye A) k v wr)) (fun _ _ i _=>N-(intOf i).toNat)
  case atStart=>exact⟨0,Nat.zero_le _,rfl,rfl,⟨ownsI_nil _ _,G2.out⟩⟩
  case round=>
   obtain⟨k,hk,rfl,rfl,HI⟩:=hrel;clear G2;have bb:=Z1u A k;have d0:=(HI.out.below.cell (p:=⟨w.heap.size,0,none⟩) (by show w.heap.size<W.heap.size; rw[HP.out.2.2.1]; omega)).trans HP.out.2.2.2.1
   have t0:=(HI.out.below.cell (p:=⟨b,o,none⟩) HP.out.2.2.2.2.1).trans HP.out.2.2.2.2.2
   by_cases hlt:k<N
   ·have hlt':(k:Int)<N:=by omega
    have C2:=hid (CB.out k hlt wr HI.out.below);rw[BI.out k hlt] at C2;have b1:=Z5H A k;have HM:Hid (badN A (k+1)=badN A k+bad1 A k):=rfl;obtain⟨M1,hM1⟩:∃ M1,badN A (k+1)=M1:=⟨_,rfl⟩;have HM1:=hid hM1;rw[hM1] at HM;clear hM1;generalize badN A k=M at bb HM;generalize bad1 A k=E at b1 HM C2;go_wp2_with fail
    refine C2.out.mono ?_
    rintro _ w3 ⟨rfl,g3⟩;have I3:=hid (HI.out.to g3);clear g3 C2 d0 t0;have d0:=(I3.out.below.cell (p:=⟨w.heap.size,0,none⟩) (by show w.heap.size<W.heap.size; rw[HP.out.2.2.1]; omega)).trans HP.out.2.2.2.1
    have C3:=hid (CR.out k w3 I3.out.below);have HL:Hid (Ye A k=decide ((arRead A k).2.2≠0)):=rfl;generalize arRead A k=R at C3 HL;go_wp2_with fail
    refine C3.out.mono ?_
    rintro _ w4 ⟨rfl,g4⟩;have I4:=hid (I3.out.to g4);clear g4 C3 d0 I3 HI
    by_cases e:R.2.2=0
    ·have e':(R.2.2 != 0)=false:=bne_eq_false_iff_eq.2 e
     have HF:Hid (Ye A k=false):=by show _=_; rw[HL.out]; exact decide_eq_false (fun h=>h e)
     clear e;go_wp2
     go_roundw
     case rel=>exact⟨k+1,by omega,by rw[HM1.out,HM.out] <;> rfl,by go_num,I4.out.skip HF.out⟩
     case measure=>simp[intOf]; omega
    ·have e':(R.2.2 != 0)=true:=bne_iff_ne.2 e
     have HF:Hid (Ye A k=true):=by show _=_; rw[HL.out]; exact decide_eq_true e
     clear e;have I5:=hid (I4.out.to ((Below.refl _ w4).alloc (Nat.le_refl _) (.cells #[.int .i64 (k:Int)] 3)));go_wp2_with (at_builtin; (refine WG _ rfl (.tmp 44) (.tmp 46) rfl W.heap.size u6 (ups (goneOf k (Ye A))) (k:Int) rfl I5.out.own ⟨w4.heap.size,0,none⟩ rfl (Uf w4 k 3) (by rw[Xp]; have:=Yh k (Ye A); omega) I5.out.below.size ?_; intro g6 m6 cap6 w6 hm6 hown6 hgrow6; (have J6:=hid (I5.out.put HF.out hown6 hgrow6)); clear hown6 hgrow6 hm6))
     go_roundw
     case rel=>exact⟨k+1,by omega,by rw[HM1.out,HM.out] <;> rfl,by go_num,J6.out⟩
     case measure=>simp[intOf]; omega
   ·have hlt':¬ (k:Int)<N:=by omega
    obtain rfl:k=N:=by omega
    clear hlt hk;have HO:=hid (fun m=>HI.out.out hN HP.out.1 m)
    obtain⟨M,hM⟩:∃ M,badN A k=M:=⟨_,rfl⟩;have HE:=hid hM;rw[hM] at bb;rw[hM];clear HI hM;go_wp2
    go_ret3
    rw[HE.out];exact HO.out M
end Go.Proofs.YtdnacpbgodooaaaGreatDoor
namespace Go.Proofs.YtdnacpbgodooaaaGreatDoor
open Go.RowKit Go.Lib
structure QR (B:Nat) (w:World) (b o n:Nat) (h:Nat->Hd) (A:Ar):Prop extends Z4 w b o n h A where
 up:∀ i,i<n->Up B (h i)
theorem QR.below {B:Nat} {w w':World} {b o n:Nat} {h:Nat->Hd} {A:Ar} (H:QR B w b o n h A) (g:Below w.heap.size w w'):QR B w' b o n h A:=⟨H.toZ4.below g,H.up⟩
theorem Z5W {B B':Nat} {d:Hd} (h:Fresh B' d.x d.y) (hB:B<=B'):Up B d:=⟨fun b o e _=>Nat.le_trans hB (h b o (.inl e)),fun b o e _=>Nat.le_trans hB (h b o (.inr e))⟩
theorem Z0y {B B':Nat} {w w4:World} {b o i:Nat} {h:Nat->Hd} {A:Ar} (H:QR B w b o 3 h A) (hi:i<3) (g:Below w.heap.size w w4) {x y:Option Addr} {p c q d:Nat} {D:Dv} (hD:Zc w4 x p y q D) (hF:Fresh B' x y) (hB:B<=B'):
  (w4.cell? ⟨b,o+i*2,none⟩=some (.slice (h i).x (h i).p (h i).c)∧w4.cell? ⟨b,o+i*2+1,none⟩=some (.slice (h i).y (h i).q (h i).d)∧w4.frozen? ⟨b,o+i*2,none⟩=false∧w4.frozen? ⟨b,o+i*2+1,none⟩=false) ∧
  (∃ h',QR B ((w4.setCell ⟨b,o+i*2,none⟩ (.slice x p c)).setCell ⟨b,o+i*2+1,none⟩ (.slice y q d)) b o 3 h' (A.set i D))∧w.grownBy ((w4.setCell ⟨b,o+i*2,none⟩ (.slice x p c)).setCell ⟨b,o+i*2+1,none⟩ (.slice y q d)) (some b):=by
 have H4:=H.below g;obtain⟨k1,k2⟩:=H4.toZ4.store i hi ⟨x,p,c,y,q,d⟩ D hD;refine⟨⟨H4.arr.c0 i hi,H4.arr.c1 i hi,H4.free _,H4.free _⟩,⟨_,k1,fun j hj=>?_⟩,ZB (ZC g) k2⟩
 by_cases e:j=i
 ·subst e
  have:setH h j ⟨x,p,c,y,q,d⟩ j=⟨x,p,c,y,q,d⟩:=by simp[setH]
  rw[this];exact Z5W hF hB
 ·have:setH h i ⟨x,p,c,y,q,d⟩ j=h j:=by simp[setH,e]
  rw[this];exact H.up j hj
structure WrU (w:World) (pr pc b cc:Nat) (A:Ar) (W:World):Prop extends WrI w pr pc b cc A W where
 fru:∃ h,QR w.heap.size W b 0 3 h A
section
variable {w W W':World} {pr pc b cc:Nat} {A A':Ar}
theorem WrU.grown (H:WrU w pr pc b cc A W) (g:W.grownBy W' (some b)) (hf:∃ h,QR w.heap.size W' b 0 3 h A'):WrU w pr pc b cc A' W':=⟨H.toWrI.grown g (by obtain⟨h,hh⟩:=hf; exact⟨h,hh.toZ4⟩),hf⟩
theorem WrU.to (H:WrU w pr pc b cc A W) (g:Below W.heap.size W W'):WrU w pr pc b cc A W':=H.grown (ZC g) (by obtain⟨h,hh⟩:=H.fru; exact⟨h,hh.below g⟩)
theorem WrU.drew (H:WrU w pr pc b cc A W):WrU w pr pc b cc A W.drew:=H.to ((Below.refl _ W).drew)
end
theorem Z3O {w W w2:World} {pr b cc:Nat} {h:Nat->Hd} {A:Ar} (H:WrI w pr w2.heap.size b cc A (w2.alloc (.cells #[.slice (some ⟨b,0,none⟩) 3 cc] 26))) (hf:Z4 w2 b 0 3 h A) (hu:∀ i,i<3->Up W.heap.size (h i)) (hB:w.heap.size<=W.heap.size):
  WrU w pr w2.heap.size b cc A (w2.alloc (.cells #[.slice (some ⟨b,0,none⟩) 3 cc] 26)):=
 ⟨H,h,hf.below ((Below.refl _ w2).alloc (Nat.le_refl _) _),fun i hi=>⟨fun b o e h0=>Nat.le_trans hB ((hu i hi).1 b o e h0),fun b o e h0=>Nat.le_trans hB ((hu i hi).2 b o e h0)⟩⟩
def QQ (w:World) (r:Ar × Int × Int) (e:Ending) (w':World):Prop:=
 (∃ a n c,e=.returned (.tuple #[.agg #[.slice a n c],.int .i64 r.2.1,.int .i64 r.2.2])∧((n=0∧r.1=[]∧a=none)∨∃ b h,a=some ⟨b,0,none⟩∧w.heap.size<=b∧QR w.heap.size w' b 0 n h r.1))∧Below w.heap.size w w'
theorem Z39 {w w':World} {x:Int} (g:Below w.heap.size w w'):QQ w ([],0,x) (.returned (.tuple #[.agg #[.slice none 0 0],.int .i64 0,.int .i64 x])) w':=⟨⟨none,0,0,rfl,.inl ⟨rfl,rfl,rfl⟩⟩,g⟩
theorem QQ.he {w w':World} {r:Ar × Int × Int} {e:Ending} (h:QQ w r e w'):Z3H w r e w':=by
 obtain⟨⟨a,n,c,h1,h2⟩,h3⟩:=h;refine⟨⟨a,n,c,h1,?_⟩,h3⟩
 rcases h2 with h2 | ⟨b,hd,k1,k2,k3⟩
 ·exact .inl h2
 ·exact .inr ⟨b,hd,k1,k2,k3.toZ4⟩
theorem WrU.outHu {w W:World} {pr pc b cc:Nat} {A:Ar} (H:WrU w pr pc b cc A W) (m:Int):QQ w (A,m,0) (.returned (.tuple #[.agg #[.slice (some ⟨b,0,none⟩) 3 cc],.int .i64 m,.int .i64 0])) (W.setCell ⟨pr,0,none⟩ (.slice (some ⟨b,0,none⟩) 3 cc)):=by
 obtain⟨h,hh⟩:=H.fru;exact⟨⟨_,3,cc,rfl,.inr ⟨b,h,rfl,H.ge.2,hh.toZ4.box H.ne.1 H.rc _,hh.up⟩⟩,H.below.setCell (p:=⟨pr,0,none⟩) H.ge.1 _⟩
end Go.Proofs.YtdnacpbgodooaaaGreatDoor
namespace Go.Proofs.YtdnacpbgodooaaaGreatDoor
open Go.RowKit Go.Lib
theorem JC (a:Option Addr) (n c:Nat) (i:Int) (A:Ar) (w:World) (H:Z5 w a n A) (ht:(arRead A i).2.2≠0):
  Calls Tryz.prog 75 #[.agg #[.slice a n c],.int .i64 i] w (QQ w ([],0,(arRead A i).2.2)):=by
 obtain⟨W,hW⟩:∃ W,W=(w.alloc (.cells #[.slice a n c] 26)).alloc (.cells #[.slice none 0 0] 26):=⟨_,rfl⟩;have hB:Below w.heap.size w W:=by rw[hW]; go_grown
 have hz:W.heap.size=w.heap.size+2:=by rw[hW]; simp
 have rc:W.cell? ⟨w.heap.size+1,0,none⟩=some (.slice none 0 0):=by rw[hW]; simp[go_sem]
 have rf:W.frozen? ⟨w.heap.size+1,0,none⟩=false:=by rw[hW]; simp[go_sem]
 have HT:=hid (ZH a n c i A W (H.below hB));have HP:=hid (And.intro hB (And.intro hz (And.intro rc rf)));have HK:=hid (fun x w' (g:Below w.heap.size w w')=>Z39 (x:=x) g)
 generalize arRead A i=r at HT ht;have ht':(r.2.2 != 0)=true:=bne_iff_ne.2 ht;rw[hW] at HT;have HE:=hid hW;clear ht hB hz rc rf H hW;go_enter Tryz.func75,Tryz.ntmps75
 go_wp2_with fail
 refine HT.out.mono ?_
 rintro _ w1 ⟨rfl,g1⟩;rw[<- HE.out] at g1;have r1:=(g1.cell (p:=⟨w.heap.size+1,0,none⟩) (by show w.heap.size+1<W.heap.size; rw[HP.out.2.1]; omega)).trans HP.out.2.2.1
 have r2:=(g1.frozen (p:=⟨w.heap.size+1,0,none⟩) (by show w.heap.size+1<W.heap.size; rw[HP.out.2.1]; omega)).trans HP.out.2.2.2
 have y0:=World.cell?_setCell_same w1 ⟨w.heap.size+1,0,none⟩ (.slice none 0 0) r1
 have G1:=hid ((bel3 HP.out.1 g1).setCell (p:=⟨w.heap.size+1,0,none⟩) (by show w.heap.size<=w.heap.size+1; omega) (.slice none 0 0))
 clear g1;go_wp2
 refine bodyPost_ret (v:=.tuple #[.agg #[.slice none 0 0],.int .i64 0,.int .i64 r.2.2]) (by simp[results,Tryz.results75,go_sem,y0]) rfl ?_
 exact HK.out _ _ G1.out
def load107:Op:=Op.load 56 (Operand.tmp 107)
@[go_sem] theorem Z3d:load107=Op.load 56 (Operand.tmp 107):=rfl
theorem JB (b o c:Nat) (h:Nat->Hd) (k:Nat) (A:Ar) (w:World) (H:Arr w b o 3 h A) (hm:Z2 A=true) (hk:k<many A) (ht:(tell A k).2.2=0):
  Calls Tryz.prog 75 #[.agg #[.slice (some ⟨b,o,none⟩) 3 c],.int .i64 k] w (QQ w (heal2 A k,healN A k,0)):=by
 obtain⟨W,hW⟩:∃ W,W=(w.alloc (.cells #[.slice (some ⟨b,o,none⟩) 3 c] 26)).alloc (.cells #[.slice none 0 0] 26):=⟨_,rfl⟩;have hB:Below w.heap.size w W:=by rw[hW]; go_grown
 have hz:W.heap.size=w.heap.size+2:=by rw[hW]; simp
 have rc:W.cell? ⟨w.heap.size+1,0,none⟩=some (.slice none 0 0):=by rw[hW]; simp[go_sem]
 have rf:W.frozen? ⟨w.heap.size+1,0,none⟩=false:=by rw[hW]; simp[go_sem]
 have c0:W.cell? ⟨w.heap.size,0,none⟩=some (.slice (some ⟨b,o,none⟩) 3 c):=by rw[hW]; simp[go_sem]
 have hmm:=(arMay_iff A).1 hm;have hk64:k<=64:=by omega
 have HA:∀ wx,Below W.heap.size W wx->Z5 wx (some ⟨b,o,none⟩) 3 A:=fun wx g=>.inr ⟨b,o,h,rfl,(H.below hB).below g⟩
 have HW:=hid (H.below hB);have HT:=hid (ZH (some ⟨b,o,none⟩) 3 c k A W (HA W (Below.refl _ _)));rw[Zl A k hm hk,hW] at HT;have CC:=hid (fun wx (g:Below W.heap.size W wx)=>Z2C (some ⟨b,o,none⟩) 3 c A wx (HA wx g) (ZN A hm))
 have CN:=hid (fun wx=>Yz k wx (by omega))
 have CB:=hid (fun wx (g:Below W.heap.size W wx)=>Xd (h 1).x (h 1).p (h 1).c (h 1).y (h 1).q (h 1).d k k (dev A 1) wx ((HW.out.below g).dv 1 (by omega)))
 have h1:=Vi A hm k hk ht;have hpt:part k<many (heal1 A k):=by rw[h1.2.2.1]; exact WP k _ hk hmm.2.2.2.2.1
 have HQ:=hid (And.intro h1.2.1 (And.intro (show k<many (heal1 A k) by rw[h1.2.2.1]; exact hk) hpt))
 have HL:=hid (ZR A k ht);have E0:Hid (heal0 A k=if sick0 A k=true then A.set 0 (dvWrite (dev A 0) k k (tell A k).1).1 else A):=rfl
 have E1:Hid (heal1 A k=if sick1 A k=true then (heal0 A k).set 1 (dvWrite (dev (heal0 A k) 1) k k (tell A k).1).1 else heal0 A k):=by show _=_; rw[(UR A k).1]; rfl
 have E2:Hid (heal2 A k=if (known (heal1 A k) k&&!right (heal1 A k) k)=true then (heal1 A k).set 2 (dvWrite (dev (heal1 A k) 2) ((k / 2:Nat):Int) ((512+k / 2:Nat):Int) (xors (tell A k).1 (tell (heal1 A k) (part k)).1)).1 else heal1 A k):=rfl
 have S0:Hid (sick0 A k=decide ((tell A k).2.1≠1)):=rfl;have S1:Hid (sick1 A k=decide ((dvRead (dev A 1) k k).2≠0∨(dvRead (dev A 1) k k).1≠(tell A k).1)):=rfl;have EN:Hid (healN A k=(if sick0 A k=true then 1 else 0)+(if sick1 A k=true then 1 else 0)+(if (known (heal1 A k) k&&!right (heal1 A k) k)=true then 1 else 0)):=rfl
 generalize heal2 A k=T at E2;generalize healN A k=TN at EN;generalize heal1 A k=A2 at E1 E2 EN HQ;generalize heal0 A k=A1 at E0 E1;generalize sick0 A k=x0 at S0 E0 EN;generalize sick1 A k=x1 at S1 E1 EN;generalize dvRead (dev A 1) k k=q at CB S1;have ht':((tell A k).2.2 != 0)=false:=bne_eq_false_iff_eq.2 ht;generalize tell A k=r at HT HL E0 E1 E2 S0 S1 ht';have HP:=hid (And.intro hB (And.intro hz (And.intro c0 (And.intro rc rf))));have HE:=hid hW;generalize hPP:QQ w (T,TN,0)=PP;have HPP:=hid hPP;clear hB hz rc rf c0 H hW HA hm hk hmm ht h1 hpt hPP;go_enter Tryz.func75,Tryz.ntmps75
 go_wp2_with fail
 refine HT.out.mono ?_
 rintro _ w1 ⟨rfl,g1⟩;rw[<- HE.out] at g1;have d0:=(g1.cell (p:=⟨w.heap.size,0,none⟩) (by show w.heap.size<W.heap.size; rw[HP.out.2.1]; omega)).trans HP.out.2.2.1
 have G1:=hid g1;clear g1 HT HE;go_wp2_with fail
 clear ht';refine (CC.out _ G1.out).mono ?_
 rintro _ w3 ⟨a3,c3,rfl,h3,g3⟩
 rcases h3 with ⟨h30,_⟩ | ⟨b3,hd3,rfl,hb3,hf3,hu3⟩
 ·omega
 have hst:=Z3O (W:=w1) (XJ (pr:=w.heap.size+1) (cc:=c3) HP.out.1 (by omega) (by rw[HP.out.2.1]; omega) HP.out.2.2.2.1 HP.out.2.2.2.2 (bel3 G1.out g3) (Nat.le_trans G1.out.size hb3) hf3) hf3 hu3 (Nat.le_trans HP.out.1.size G1.out.size)
 have S3:=hid hst;have HB:=hid (Nat.le_trans G1.out.size hb3);go_upto_region 5 with fail
 obtain⟨W3,hW3⟩:∃ W3,W3=w3.alloc (.cells #[.slice (some ⟨b3,0,none⟩) 3 c3] 26):=⟨_,rfl⟩;have b3':Below w3.heap.size w3 W3:=by rw[hW3]; exact (Below.refl _ w3).alloc (Nat.le_refl _) _
 have G3:=hid (bel3 (bel3 G1.out g3) b3');rw[<- hW3] at S3 ⊢;clear hW3 hst hf3 hu3 hb3 g3 d0 G1 CC b3';generalize w3.heap.size=pc at S3 ⊢
 go_upto_if 33 with fail
 go_cut [11] (fun s11 wx=>s11=.int .i64 (if x0=true then 1 else 0)∧WrU w (w.heap.size+1) pc b3 c3 A1 wx∧Below W.heap.size W wx)
 case first=>
  by_cases e0:r.2.1=1
  ·have e0':(r.2.1 != 1)=false:=bne_eq_false_iff_eq.2 e0
   have X0:Hid (x0=false):=by show _=_; rw[S0.out]; simp[e0]
   clear e0;go_wp2_with fail
   go_meet
   exact⟨by rw[X0.out] <;> rfl,by rw[E0.out,X0.out]; exact S3.out,G3.out⟩
  ·have e0':(r.2.1 != 1)=true:=bne_iff_ne.2 e0
   have X0:Hid (x0=true):=by show _=_; rw[S0.out]; simp[e0]
   clear e0;obtain⟨h4,f4⟩:=S3.out.fru;have CW:=hid (fun wx (g:Below W3.heap.size W3 wx)=>Zy (h4 0).x (h4 0).p (h4 0).c (h4 0).y (h4 0).q (h4 0).d k k (str r.1) (dev A 0) wx ((f4.below g).arr.dv 0 (by omega)))
   rw[str_list] at CW;have E0':Hid (A1=A.set 0 (dvWrite (dev A 0) k k r.1).1):=by show _=_; rw[E0.out,if_pos X0.out]
   generalize dvWrite (dev A 0) k k r.1=r2 at CW E0';have d1:=S3.out.cb;obtain⟨⟨t0,t1⟩,_⟩:=f4.arr.three;rw[Nat.zero_add] at t1;have F4:=hid f4;clear f4;go_wp2_with fail
   go_region_with (go_at_call 130; refine (CW.out _ ((Below.refl _ W3).drew)).mono ?_; rintro _ w7 ⟨x,p,e,y,q',d,rfl,hD,hF,g4⟩; (have g7:=undrew g4); (have Z:=Z0y (c:=e) (d:=d) F4.out (show 0<3 by omega) g7 hD hF S3.out.below.size); (have S7:=hid (And.intro ((S3.out.grown Z.2.2) Z.2.1) (G3.out.grown Z.2.2 G3.out.size (fun k hk=>by cases hk; exact HB.out)))); (have z0:w7.cell? ⟨b3,0,none⟩=some (.slice (h4 0).x (h4 0).p (h4 0).c):=Z.1.1); (have z1:w7.cell? ⟨b3,1,none⟩=some (.slice (h4 0).y (h4 0).q (h4 0).d):=Z.1.2.1); (have z2:w7.frozen? ⟨b3,0,none⟩=false:=Z.1.2.2.1); (have z3:w7.frozen? ⟨b3,1,none⟩=false:=Z.1.2.2.2); (have zb:=(S3.out.to g7).cb); (have zc:=S7.out.1.cb); clear g4 g7 hD hF Z)
   all_goals (go_wp2_with fail; go_meet)
   all_goals exact⟨by rw[X0.out] <;> rfl,by rw[E0'.out]; exact S7.out.1,S7.out.2⟩
 case rest=>
  obtain⟨rfl,hS,hG⟩:=hcut;clear S3 G3 E0 S0;obtain⟨N0,hN0,hN0'⟩:∃ N0:Int,N0=(if x0=true then 1 else 0)∧0<=N0∧N0<=1:=⟨_,rfl,by split <;> omega⟩
  rw[<- hN0] at EN ⊢;clear hN0;have S4:=hid hS;have G4:=hid hG;clear hS hG;have d0:=(G4.out.cell (p:=⟨w.heap.size,0,none⟩) (by show w.heap.size<W.heap.size; rw[HP.out.2.1]; omega)).trans HP.out.2.2.1
  obtain⟨_,⟨t2,t3⟩,_⟩:=(HW.out.below G4.out).three;go_wp2_with fail
  refine (CB.out _ G4.out).mono ?_
  rintro _ w5 ⟨rfl,g5⟩;have S5:=hid (S4.out.to g5);clear g5 d0 t2 t3 S4 G4 CB;go_upto_region 10 with fail
  go_cut [66] (fun s66 wx=>s66=.bool x1∧wx=w5)
  case first=>
   by_cases e1:q.2=0
   ·have e1':(q.2 != 0)=false:=bne_eq_false_iff_eq.2 e1
    by_cases e2:q.1=r.1
    ·have X1:Hid (x1=false):=by show _=_; rw[S1.out]; simp[e1,e2]
     have e2':((str q.1).toList==(str r.1).toList)=true:=by rw[Z1D]; exact decide_eq_true e2
     have e3':((str q.1).toList != (str r.1).toList)=false:=by rw[bne,e2']; rfl
     clear e1 e2;go_wp2_with fail
     go_meet
     exact⟨by rw[X1.out] <;> rfl,rfl⟩
    ·have X1:Hid (x1=true):=by show _=_; rw[S1.out]; simp[e2]
     have e2':((str q.1).toList==(str r.1).toList)=false:=by rw[Z1D]; exact decide_eq_false e2
     have e3':((str q.1).toList != (str r.1).toList)=true:=by rw[bne,e2']; rfl
     clear e1 e2;go_wp2_with fail
     go_meet
     exact⟨by rw[X1.out] <;> rfl,rfl⟩
   ·have e1':(q.2 != 0)=true:=bne_iff_ne.2 e1
    have X1:Hid (x1=true):=by show _=_; rw[S1.out]; simp[e1]
    clear e1;go_wp2_with fail
    go_meet
    exact⟨by rw[X1.out] <;> rfl,rfl⟩
  case rest=>
   obtain⟨rfl,hw⟩:=hcut;rw[<- hw] at S5;clear hw S1
   go_upto_if 66 with fail
   go_cut [11] (fun s11 wx=>s11=.int .i64 (N0+(if x1=true then 1 else 0))∧WrU w (w.heap.size+1) pc b3 c3 A2 wx)
   case first=>
    cases x1 with
    | false=>
     go_wp2_with fail
     go_meet
     exact⟨by simp,by rw[E1.out]; exact S5.out⟩
    | true=>
     obtain⟨h4,f4⟩:=S5.out.fru;have CW:=hid (fun wx (g:Below wc.heap.size wc wx)=>Zy (h4 1).x (h4 1).p (h4 1).c (h4 1).y (h4 1).q (h4 1).d k k (str r.1) (dev A1 1) wx ((f4.below g).arr.dv 1 (by omega)))
     rw[str_list] at CW;have E1':Hid (A2=A1.set 1 (dvWrite (dev A1 1) k k r.1).1):=E1.out;generalize dvWrite (dev A1 1) k k r.1=r2 at CW E1';have d1:=S5.out.cb;obtain⟨_,⟨t2,t3⟩,_⟩:=f4.arr.three;rw[Nat.zero_add] at t2 t3;have F4:=hid f4;clear f4;go_wp2_with fail
     go_region_with (go_at_call 130; refine (CW.out _ ((Below.refl _ wc).drew)).mono ?_; rintro _ w7 ⟨x,p,e,y,q',d,rfl,hD,hF,g4⟩; (have g7:=undrew g4); (have Z:=Z0y (c:=e) (d:=d) F4.out (show 1<3 by omega) g7 hD hF S5.out.below.size); (have S7:=hid ((S5.out.grown Z.2.2) Z.2.1)); (have z0:w7.cell? ⟨b3,2,none⟩=some (.slice (h4 1).x (h4 1).p (h4 1).c):=Z.1.1); (have z1:w7.cell? ⟨b3,3,none⟩=some (.slice (h4 1).y (h4 1).q (h4 1).d):=Z.1.2.1); (have z2:w7.frozen? ⟨b3,2,none⟩=false:=Z.1.2.2.1); (have z3:w7.frozen? ⟨b3,3,none⟩=false:=Z.1.2.2.2); (have zb:=(S5.out.to g7).cb); (have zc:=S7.out.cb); clear g4 g7 hD hF Z)
     all_goals (go_wp2_with fail; go_meet)
     all_goals exact⟨by simp,by rw[E1'.out]; exact S7.out⟩
   case rest=>
    obtain⟨rfl,hS⟩:=hcut;clear S5 E1;obtain⟨N1,hN1,hN1'⟩:∃ N1:Int,N1=N0+(if x1=true then 1 else 0)∧0<=N1∧N1<=2:=⟨_,rfl,by split <;> omega⟩
    rw[<- hN1] at EN ⊢;clear hN1 hN0';have S5:=hid hS;clear hS;obtain⟨h5,f5⟩:=S5.out.fru;have CR:=hid (VX b3 0 c3 h5 A2 k _ f5.arr HQ.out.1 HQ.out.2.1);have HKn:Hid (known A2 k=true->(tell A2 (part k)).2.2=0):=fun e=>by unfold known at e; rw[decide_eq_true_eq] at e; exact e.2
    generalize known A2 k=kn at CR EN E2 HKn;generalize right A2 k=ri at CR EN E2;have d1:=S5.out.cb;clear f5;go_wp2_with fail
    refine CR.out.mono ?_
    rintro _ w6 ⟨rfl,g6⟩;have S6:=hid (S5.out.to g6);clear g6 d1 S5 CR;go_upto_region 14 with fail
    go_cut [93] (fun s93 wx=>s93=.bool (kn&&!ri)∧wx=w6)
    case first=>
     cases kn with
     | false=>
      go_wp2_with fail
      go_meet
      exact⟨rfl,rfl⟩
     | true=>
      go_wp2_with fail
      go_meet
      exact⟨rfl,rfl⟩
    case rest=>
     obtain⟨rfl,hw⟩:=hcut;rw[<- hw] at S6;have HKn2:Hid ((kn&&!ri)=true->(tell A2 (part k)).2.2=0):=fun e=>HKn.out (by cases kn; cases e; rfl)
     clear hw HKn;obtain⟨x2,hx2⟩:∃ x2,x2=(kn&&!ri):=⟨_,rfl⟩;rw[<- hx2] at EN E2 HKn2 ⊢;clear hx2;obtain⟨W6,rfl⟩:∃ W6,W6=wc:=⟨_,rfl⟩
     go_upto_if 93 with fail
     go_cut [11] (fun s11 wx=>s11=.int .i64 TN∧WrU w (w.heap.size+1) pc b3 c3 T wx)
     case first=>
      cases x2 with
      | false=>
       have ET:Hid (T=A2∧TN=N1):=⟨E2.out,by have:=EN.out; simpa using this⟩
       go_wp2_with fail
       go_meet
       exact⟨by rw[ET.out.2] <;> rfl,by rw[ET.out.1]; exact S6.out⟩
      | true=>
       have hl2:=ZR A2 (part k) (HKn2.out rfl);obtain⟨h6,f6⟩:=S6.out.fru;have CR:=hid (fun wx (g:Below W6.heap.size W6 wx)=>ZH (some ⟨b3,0,none⟩) 3 c3 (part k) A2 wx (.inr ⟨b3,0,h6,rfl,(f6.below g).arr⟩))
       rw[Zl A2 (part k) HQ.out.1 HQ.out.2.2] at CR;have ET:Hid (T=A2.set 2 (dvWrite (dev A2 2) ((k / 2:Nat):Int) ((512+k / 2:Nat):Int) (xors r.1 (tell A2 (part k)).1)).1∧TN=N1+1):=⟨E2.out,EN.out⟩;generalize tell A2 (part k)=u at CR ET hl2;have CD:=hid (fun wx=>Yd (str r.1) (str u.1) wx (by rw[str_size,HL.out]; omega) (by rw[str_size,str_size,HL.out,hl2]; exact Nat.le_refl _) (by rw[str_size,hl2]; omega))
       rw[str_list,str_list] at CD;generalize xors r.1 u.1=X at CD ET;have d1:=S6.out.cb;clear f6 hl2 E2 EN;go_upto_region 15 with fail
       go_cut [16,17,18] (fun s16 s17 s18 wx=>s16=.string (str u.1)∧s17=.int .i64 u.2.1∧s18=.int .i64 u.2.2∧WrU w (w.heap.size+1) pc b3 c3 A2 wx)
       case first=>
        go_region_held3 (fun w'=>w'.cell? ⟨pc,0,none⟩=some (.slice (some ⟨b3,0,none⟩) 3 c3)) (go_keep)
         (first | (go_at_call 133; refine (CN.out _).mono ?_; rintro _ w9 ⟨rfl,h9⟩; (have h8:=h9.symm); subst h8) | (go_at_call 77; refine (CR.out _ ((Below.refl _ W6).drew)).mono ?_; rintro _ w9 ⟨rfl,g9⟩; (have S9:=hid (S6.out.to (undrew g9))); (have j0:=S9.out.cb); clear g9))
        all_goals (go_wp2_with fail; go_meet)
        all_goals exact⟨rfl,rfl,rfl,S9.out⟩
       case rest=>
        obtain⟨rfl,rfl,rfl,hS⟩:=hcut;have S7:=hid hS;clear hS S6 d1 CR;obtain⟨h7,f7⟩:=S7.out.fru;have u1:IntKind.i64.wrap ((k:Int) / 2)=((k / 2:Nat):Int):=by rw[IntWalk.i64_in _ (by omega)]; omega
        have u2:IntKind.i64.wrap (512+((k / 2:Nat):Int))=((512+k / 2:Nat):Int):=by rw[IntWalk.i64_in _ (by omega)]; omega
        have CP:=hid (fun wx (g:Below wc.heap.size wc wx)=>Zy (h7 2).x (h7 2).p (h7 2).c (h7 2).y (h7 2).q (h7 2).d ((k / 2:Nat):Int) ((512+k / 2:Nat):Int) (str X) (dev A2 2) wx ((f7.below g).arr.dv 2 (by omega)))
        rw[str_list] at CP;have d1:=S7.out.cb;obtain⟨_,_,t4,t5⟩:=f7.arr.three;rw[Nat.zero_add] at t4 t5;have F7:=hid f7;generalize dvWrite (dev A2 2) ((k / 2:Nat):Int) ((512+k / 2:Nat):Int) X=r2 at CP ET;generalize ((512+k / 2:Nat):Int)=R at CP u2;generalize ((k / 2:Nat):Int)=Q at CP u1 u2;generalize str X=XS at CD CP;have hN1'':IntKind.i64.wrap (N1+1)=N1+1:=IntWalk.i64_in _ (by omega)
        clear f7;go_wp2_with fail
        rw[<- Z3d];go_region_held3 (fun w'=>w'.cell? ⟨pc,0,none⟩=some (.slice (some ⟨b3,0,none⟩) 3 c3)) (go_keep)
         (first | (go_at_call 134; refine (CD.out _).mono ?_; rintro _ w8 ⟨rfl,g6⟩; (have G6:=hid (undrew g6)); (have j0:=(S7.out.to G6.out).cb); (have j4:=(G6.out.cell (p:=⟨b3,4,none⟩) F7.out.arr.lt).trans t4); (have j5:=(G6.out.cell (p:=⟨b3,5,none⟩) F7.out.arr.lt).trans t5); clear g6) | (go_at_call 130; refine (CP.out _ G6.out).mono ?_; rintro _ w9 ⟨x,p,e,y,q',d,rfl,hD,hF,g7⟩; (have Z:=Z0y (c:=e) (d:=d) (F7.out.below G6.out) (show 2<3 by omega) g7 hD hF (Nat.le_trans S7.out.below.size G6.out.size)); (have S9:=hid (((S7.out.to G6.out).grown Z.2.2) Z.2.1)); (have z0:w9.cell? ⟨b3,4,none⟩=some (.slice (h7 2).x (h7 2).p (h7 2).c):=Z.1.1); (have z1:w9.cell? ⟨b3,5,none⟩=some (.slice (h7 2).y (h7 2).q (h7 2).d):=Z.1.2.1); (have z2:w9.frozen? ⟨b3,4,none⟩=false:=Z.1.2.2.1); (have z3:w9.frozen? ⟨b3,5,none⟩=false:=Z.1.2.2.2); (have zb:=((S7.out.to G6.out).to g7).cb); (have zc:=S9.out.cb); clear g7 hD hF Z))
        all_goals (go_wp2_with fail; go_meet)
        all_goals exact⟨by rw[ET.out.2] <;> rfl,by rw[ET.out.1]; exact S9.out⟩
     case rest=>
      obtain⟨rfl,hS⟩:=hcut;clear S6 E2 EN HKn2 CN;have S7:=hid hS;clear hS;have d1:=S7.out.cb;have rc:=S7.out.rc;have rf:=S7.out.rf;have y0:=hid (World.cell?_setCell_same _ ⟨w.heap.size+1,0,none⟩ (.slice (some ⟨b3,0,none⟩) 3 c3) rc)
      go_upto_region 18 with fail
      go_cut [5,6] (fun s5 s6 wx=>s5=.int .i64 TN∧s6=.int .i64 0∧Hid (wx.cell? ⟨w.heap.size+1,0,none⟩=some (.slice (some ⟨b3,0,none⟩) 3 c3)∧QQ w (T,TN,0) (.returned (.tuple #[.agg #[.slice (some ⟨b3,0,none⟩) 3 c3],.int .i64 TN,.int .i64 0])) wx))
      case first=>
       go_wp2_with fail
       go_meet
       exact⟨rfl,rfl,y0.out,S7.out.outHu TN⟩
      case rest=>
       obtain⟨rfl,rfl,hw⟩:=hcut;clear y0 rc rf d1;have y0:=hw.out.1;rename_i K8 hK8;refine hK8 _ _ (wp_ret ?_)
       refine bodyPost_ret (v:=.tuple #[.agg #[.slice (some ⟨b3,0,none⟩) 3 c3],.int .i64 TN,.int .i64 0]) (by simp[results,Tryz.results75,go_sem,y0]) rfl ?_
       rw[<- HPP.out];exact hw.out.2
theorem Jz (a:Option Addr) (n c:Nat) (i:Int) (A:Ar) (w:World) (H:Z5 w a n A):
  Calls Tryz.prog 75 #[.agg #[.slice a n c],.int .i64 i] w (QQ w (arHeal A i)):=by
 unfold arHeal
 by_cases ht:(arRead A i).2.2=0
 ·rw[if_pos ht]
  have h0:arTouch A i=0:=by
   apply Classical.byContradiction
   intro h;rw[arRead,if_neg h] at ht;exact h ht
  obtain⟨hm,h0,h1⟩:=Xh A i h0;obtain⟨k,rfl⟩:∃ k:Nat,i=k:=⟨i.toNat,by omega⟩
  obtain⟨rfl,b,o,h,rfl,HX⟩:=Z8 H hm;rw[Zl A k hm (by omega)] at ht
  rw[show (k:Int).toNat=k by omega]
  exact JB b o c h k A w HX hm (by omega) ht
 ·rw[if_neg ht]
  exact JC a n c i A w H ht
end Go.Proofs.YtdnacpbgodooaaaGreatDoor
namespace Go.Proofs.YtdnacpbgodooaaaGreatDoor
open Go.RowKit Go.Lib
def Vx (N:Nat) (f:Nat->Bool):List Value:=(List.range N).map fun i=>Value.bool (f i)
theorem Wx (N:Nat) (f:Nat->Bool):(Vx N f).length=N:=by simp[Vx]
theorem boolsV_at (N:Nat) (f:Nat->Bool) (i:Nat) (hi:i<N):(Vx N f)[i]?=some (.bool (f i)):=by simp[Vx,hi]
theorem Z3B (N:Nat) (f:Nat->Bool) (i:Nat) (v:Bool):(Vx N f).set i (.bool v)=Vx N (upd f i v):=by
 apply List.ext_getElem?
 intro j
 by_cases hj:j<N
 ·by_cases e:i=j
  ·subst e
   rw[List.getElem?_set_self (by rw[Wx]; exact hj),boolsV_at _ _ _ hj]
   simp[upd]
  ·rw[List.getElem?_set_ne e,boolsV_at _ _ _ hj,boolsV_at _ _ _ hj]
   have:¬ j=i:=fun x=>e x.symm
   simp[upd,this]
 ·rw[List.getElem?_eq_none (by rw[List.length_set,Wx]; omega),List.getElem?_eq_none (by rw[Wx]; omega)]
def Offs (bl:Nat) (h:Nat->Hd):Prop:=∀ i,i<3->∀ b o,(h i).y=some ⟨b,o,none⟩->0<(h i).q->b≠bl
theorem Arr.mark {w:World} {b:Nat} {h:Nat->Hd} {A:Ar} (H:Arr w b 0 3 h A) {bl j:Nat} (ho:Offs bl h) {x:Bool} (hp:w.cell? ⟨bl,j,none⟩=some (.bool x)) (u:Value):Arr (w.setCell ⟨bl,j,none⟩ u) b 0 3 h A:=by
 have ne:∀ {q:Addr} {v:Value},w.cell? q=some v->(∀ y,v≠.bool y)->(w.setCell ⟨bl,j,none⟩ u).cell? q=some v:=fun {q v} hq hv=>by
  rw[World.cell?_setCell_other _ _ _ _ (fun e=>?_)]
  ·exact hq
  ·rw[e,hq] at hp
   exact hv x (Option.some.inj hp)
 refine⟨H.sn,H.nb,by rw[Z3]; exact H.lt,fun i hi=>ne (H.c0 i hi) (fun _ e=>by cases e),fun i hi=>ne (H.c1 i hi) (fun _ e=>by cases e),fun i hi=>?_⟩
 have d:=H.dv i hi;refine⟨d.sn,d.sm,fun k v hv=>?_,fun k v hv=>?_,d.nb,d.mb⟩
 ·obtain⟨b1,o1,e1,hlt,hc⟩:=d.S k v hv
  refine⟨b1,o1,e1,by rw[Z3]; exact hlt,ne hc (fun y e=>?_)⟩
  obtain⟨s,_,hs⟩:=List.mem_map.1 (List.mem_of_getElem? hv)
  rw[e] at hs;cases hs
 ·obtain⟨b1,o1,e1,hlt,hc⟩:=d.L k v hv
  refine⟨b1,o1,e1,by rw[Z3]; exact hlt,?_⟩
  have hq:0<(h i).q:=by
   rw[d.sm]
   rcases Nat.eq_zero_or_pos (dev A i).2.length with z | z
   ·rw[List.eq_nil_of_length_eq_zero z] at hv; simp at hv
   ·exact z
  rw[World.cell?_setCell_other _ _ _ _ (fun e=>ho i hi b1 o1 e1 hq (congrArg Addr.block e).symm)]
  exact hc
structure StL (w:World) (pw b cw:Nat) (A:Ar) (x r:Int) (bl N:Nat) (lo:Nat->Bool) (wr:World):Prop where
 st:StB w pw b cw A x r wr
 of:∃ h,Arr wr b 0 3 h A∧Offs bl h
 lo:Own wr bl 4 (Vx N lo)
 bl:w.heap.size+4<=bl∧pw≠bl
section
variable {w wr w':World} {pw b cw bl N:Nat} {A:Ar} {x r:Int} {lo:Nat->Bool} {v:Value} {L:List Int}
theorem StL.to (H:StL w pw b cw A x r bl N lo wr) (g:Below wr.heap.size wr w'):StL w pw b cw A x r bl N lo w':=by
 obtain⟨h,hA,hO⟩:=H.of;exact⟨H.st.to g,⟨h,hA.below g,hO⟩,H.lo.below' g,H.bl⟩
theorem StL.grown (H:StL w pw b cw A x r bl N lo wr) (hN:0<N) (hO:OwnN wr (w.heap.size+4) v L) (g:wr.grownBy w' v.ownBlock):StL w pw b cw A x r bl N lo w':=by
 obtain⟨h,hA,hf⟩:=H.of;have hk:∀ p u,wr.cell? p=some u->(∀ n,u≠.int .i64 n)->w'.heap[p.block]?=wr.heap[p.block]?:=fun p u hc hu=>g.block p.block (Ym hc).2 (fun e=>hO.apart hc hu e.symm)
 exact⟨H.st.grown hO g,⟨h,hA.keeps g.size (fun p u hc hu=>(World.cell?_of_block (a:=p) (hk p u hc hu)).trans hc),hf⟩,H.lo.of_block (hk ⟨bl,0,none⟩ _ (H.lo.cell (boolsV_at N lo 0 hN)) (fun _ e=>by cases e)),H.bl⟩
theorem StL.put (H:StL w pw b cw A x r bl N lo wr) {B b':Nat} (c':Nat) {h':Nat->Hd} {A':Ar} (hA:QR B wr b' 0 3 h' A') (hB:bl<B) (hp:pw≠b') (hb:w.heap.size+4<=b'):StL w pw b' c' A' x r bl N lo (wr.setCell ⟨pw,0,none⟩ (.slice (some ⟨b',0,none⟩) 3 c')):=
 ⟨H.st.put c' hA.arr hp hb,⟨h',hA.arr.box hp H.st.bx.c0 _,fun i hi b o e hq=>by have:=(hA.up i hi).2 b o e hq; omega⟩,H.lo.other (fun e=>H.bl.2 e.symm) _,H.bl⟩
theorem StB.next (H:StB w pw b cw A x r wr) (x':Int):StB w pw b cw A x' r (wr.setCell ⟨w.heap.size+1,0,none⟩ (.int .i64 x')):=by
 have pb:=H.pb;obtain⟨h,hA⟩:=H.ar;refine⟨H.bx.other (by show pw≠w.heap.size+1; omega) _,⟨h,hA.number H.cu.c0 _⟩,H.bb,⟨World.cell?_setCell_same _ _ _ H.cu.c0,?_,by rw[World.frozen?_setCell]; exact H.cu.f0,by rw[World.frozen?_setCell]; exact H.cu.f1,by rw[Z3]; exact H.cu.lt⟩,H.r6.other (by show w.heap.size+2≠w.heap.size+1; omega) _,H.r7.other (by show w.heap.size+3≠w.heap.size+1; omega) _,pb,by rw[Z3]; exact H.lt,H.below.setCell (by show w.heap.size<=w.heap.size+1; omega) _⟩
 rw[World.cell?_setCell_other _ _ _ _ (by simp)]
 exact H.cu.c1
theorem StB.turn (H:StB w pw b cw A x r wr) (r':Int):StB w pw b cw A x r' (wr.setCell ⟨w.heap.size+1,1,none⟩ (.int .i64 r')):=by
 have pb:=H.pb;obtain⟨h,hA⟩:=H.ar;refine⟨H.bx.other (by show pw≠w.heap.size+1; omega) _,⟨h,hA.number H.cu.c1 _⟩,H.bb,⟨?_,World.cell?_setCell_same _ _ _ H.cu.c1,by rw[World.frozen?_setCell]; exact H.cu.f0,by rw[World.frozen?_setCell]; exact H.cu.f1,by rw[Z3]; exact H.cu.lt⟩,H.r6.other (by show w.heap.size+2≠w.heap.size+1; omega) _,H.r7.other (by show w.heap.size+3≠w.heap.size+1; omega) _,pb,by rw[Z3]; exact H.lt,H.below.setCell (by show w.heap.size<=w.heap.size+1; omega) _⟩
 rw[World.cell?_setCell_other _ _ _ _ (by simp)]
 exact H.cu.c0
theorem StL.next (H:StL w pw b cw A x r bl N lo wr) (x':Int):StL w pw b cw A x' r bl N lo (wr.setCell ⟨w.heap.size+1,0,none⟩ (.int .i64 x')):=by
 obtain⟨h,hA,hO⟩:=H.of;exact⟨H.st.next x',⟨h,hA.number H.st.cu.c0 _,hO⟩,H.lo.other (by have:=H.bl.1; show bl≠w.heap.size+1; omega) _,H.bl⟩
theorem StL.turn (H:StL w pw b cw A x r bl N lo wr) (r':Int):StL w pw b cw A x r' bl N lo (wr.setCell ⟨w.heap.size+1,1,none⟩ (.int .i64 r')):=by
 obtain⟨h,hA,hO⟩:=H.of;exact⟨H.st.turn r',⟨h,hA.number H.st.cu.c1 _,hO⟩,H.lo.other (by have:=H.bl.1; show bl≠w.heap.size+1; omega) _,H.bl⟩
theorem StL.mark (H:StL w pw b cw A x r bl N lo wr) (j:Nat) (hj:j<N):StL w pw b cw A x r bl N (upd lo j true) (wr.setCell ⟨bl,j,none⟩ (.bool true)):=by
 obtain⟨h,hA,hO⟩:=H.of;have hb:=H.bl;have hA':=hA.mark hO (H.lo.cell (boolsV_at N lo j hj)) (.bool true);have ho:=H.lo.set (i:=j) (by rw[Wx]; exact hj) (.bool true)
 rw[Z3B] at ho;refine⟨⟨H.st.bx.other (by show pw≠bl; exact hb.2) _,⟨h,hA'⟩,H.st.bb,H.st.cu.other (by show w.heap.size+1≠bl; omega) _,H.st.r6.other (by show w.heap.size+2≠bl; omega) _,H.st.r7.other (by show w.heap.size+3≠bl; omega) _,H.st.pb,by rw[Z3]; exact H.st.lt,H.st.below.setCell (by show w.heap.size<=bl; omega) _⟩,⟨h,hA',hO⟩,ho,hb⟩
end
theorem Z44 {w W2:World} {pw b cw N:Nat} {A:Ar} {x r:Int} (H:StB w pw b cw A x r W2):StL w pw b cw A x r W2.heap.size N (fun _=>false) (W2.alloc (.cells (List.replicate N (Value.bool false)).toArray 4)):=by
 have ga:Below W2.heap.size W2 (W2.alloc (.cells (List.replicate N (Value.bool false)).toArray 4)):=(Below.refl _ W2).alloc (Nat.le_refl _) _;obtain⟨h,hA⟩:=H.ar;refine⟨H.to ga,⟨h,hA.below ga,fun i hi b o e hq=>?_⟩,?_,H.lt,by have:=H.bx.lt; omega⟩
 ·have d:=hA.dv i hi
  have hl:0<(dev A i).2.length:=by rw[<- d.sm]; exact hq
  obtain⟨b1,o1,e1,hlt,_⟩:=d.L 0 (.bool ((dev A i).2[0])) (by simp[hl])
  rw[e] at e1;cases e1
  omega
 ·have:=Own.made W2 4 (List.replicate N (Value.bool false))
  have e:List.replicate N (Value.bool false)=Vx N (fun _=>false):=by
   unfold Vx;rw[List.map_const',List.length_range]
  rw[e] at this ⊢;exact this
end Go.Proofs.YtdnacpbgodooaaaGreatDoor
namespace Go.Proofs.YtdnacpbgodooaaaGreatDoor
open Go.RowKit Go.Lib
theorem Z2Z (a:Option Addr) (n c:Nat) (A:Ar) (x r m:Int) (w:World) (H:Z5 w a n A) (ht:stepChk A x r m≠0):
  Calls Tryz.prog 36 #[.agg #[.slice a n c],.agg #[.int .i64 x,.int .i64 r],.int .i64 m] w (YR w (VV (stepChk A x r m))):=by
 obtain⟨W,hW⟩:∃ W,W=(((w.alloc (.cells #[.slice a n c] 26)).alloc (.cells #[.int .i64 x,.int .i64 r] 41)).alloc (.cells #[.slice none 0 0] 26)).alloc (.cells #[.int .i64 0,.int .i64 0] 41):=⟨_,rfl⟩;have hB:Below w.heap.size w W:=by rw[hW]; go_grown
 have hz:W.heap.size=w.heap.size+4:=by rw[hW]; simp
 have c0:W.cell? ⟨w.heap.size,0,none⟩=some (.slice a n c):=by rw[hW]; simp[go_sem]
 have cu:Box2 W (w.heap.size+1) (.int .i64 x) (.int .i64 r):=⟨by rw[hW]; simp[go_sem],by rw[hW]; simp[go_sem],by rw[hW]; simp[go_sem],by rw[hW]; simp[go_sem],by omega⟩
 have r6:Box1 W (w.heap.size+2) (.slice none 0 0):=⟨by rw[hW]; simp[go_sem],by rw[hW]; simp[go_sem],by omega⟩
 have r7:Box2 W (w.heap.size+3) (.int .i64 0) (.int .i64 0):=⟨by rw[hW]; simp[go_sem],by rw[hW]; simp[go_sem],by rw[hW]; simp[go_sem],by rw[hW]; simp[go_sem],by omega⟩
 have C1:=Xz a n c A W (H.below hB);rw[hW] at C1;have HH:=hid (H.below hB);have HP:=hid (And.intro hB (And.intro hW (And.intro hz (And.intro c0 (And.intro cu (And.intro r6 r7))))));have CI:=hid (fun n a b wx=>Zm n a b wx)
 cases hm:Z2 A with
 | false=>
  have et:stepChk A x r m=9:=by rw[stepChk,if_neg (by rw[hm]; decide)]
  rw[et];rw[hm] at C1;have H1:=hid C1;clear C1 hB hz r6 r7 cu c0 H hW ht hm et HH CI;go_enter Tryz.func36,Tryz.ntmps36
  go_wp2_with fail
  refine H1.out.mono ?_
  rintro _ w1 ⟨rfl,g1⟩;rw[<- HP.out.2.1] at g1;have b6:=HP.out.2.2.2.2.2.1.below g1;have b7:=HP.out.2.2.2.2.2.2.below g1;have c6:=b6.c0;have f6:=b6.f0;have c70:=b7.c0;have c71:=b7.c1;have f70:=b7.f0;have f71:=b7.f1;have z6:=(b6.store (.slice none 0 0)).other (q:=⟨w.heap.size+3,0,none⟩) (by show w.heap.size+2≠w.heap.size+3; omega) (.int .i64 0)
  have z6':=z6.other (q:=⟨w.heap.size+3,1,none⟩) (by show w.heap.size+2≠w.heap.size+3; omega) (.int .i64 0)
  have z7:=(b7.other (q:=⟨w.heap.size+2,0,none⟩) (by show w.heap.size+3≠w.heap.size+2; omega) (.slice none 0 0)).store (.int .i64 0) (.int .i64 0)
  have y0:=z6'.c0;have y1:=z7.c0;have y2:=z7.c1;have HO:=hid (Yc (x:=9) ((((bel3 HP.out.1 g1).setCell (p:=⟨w.heap.size+2,0,none⟩) (by show w.heap.size<=w.heap.size+2; omega) (.slice none 0 0)).setCell (p:=⟨w.heap.size+3,0,none⟩) (by show w.heap.size<=w.heap.size+3; omega) (.int .i64 0)).setCell (p:=⟨w.heap.size+3,1,none⟩) (by show w.heap.size<=w.heap.size+3; omega) (.int .i64 0)))
  clear b6 b7 z6 z6' z7 g1;go_wp2
  refine bodyPost_ret (v:=.tuple #[.agg #[.slice none 0 0],.agg #[.int .i64 0,.int .i64 0],.int .i64 0,.slice none 0 0,.int .i64 9]) (by simp[results,Tryz.results36,go_sem,y0,y1,y2]) rfl ?_
  exact HO.out
 | true=>
  rw[hm] at C1;have hmm:=(arMay_iff A).1 hm;have hN:many A<=64:=hmm.2.2.2.1;have hN1:16<=many A:=hmm.2.2.1;obtain⟨rfl,b,o,h,rfl,HX⟩:=Z8 H hm;have hp:many A=(h 0).p:=(HX.dv 0 (by omega)).sn.symm
  have HT:=hid (And.intro (HX.below hB).lt ((HX.below hB).three.1.1));rw[stepChk,if_pos hm,hp] at ht;rw[stepChk,if_pos hm,hp];rw[hp] at hN hN1;have H1:=hid C1;clear C1 hB hz r6 r7 cu c0 H hW hm HH HX hmm hp;generalize (h 0).p=N at HT hN hN1 ht;generalize (h 0).x=xx at HT;generalize (h 0).c=cc at HT
  by_cases e1:0<=x∧x<=(N:Int)-1
  ·have f1:decide (0<=x∧x<=(N:Int)-1)=true:=decide_eq_true e1
   by_cases e2:0<=r∧r<=1073741824
   ·have f2:decide (0<=r∧r<=1073741824)=true:=decide_eq_true e2
    by_cases e3:0<=m∧m<=64
    ·rw[if_pos (by omega),if_pos e3] at ht
     exact absurd rfl ht
    ·have f3:decide (0<=m∧m<=64)=false:=decide_eq_false e3
     rw[if_pos (by omega),if_neg e3]
     have CA:=hid (fun wx=>CI.out x 0 ((N:Int)-1) wx)
     rw[f1] at CA;have CB:=hid (fun wx=>CI.out r 0 1073741824 wx)
     rw[f2] at CB;have CM:=hid (fun wx=>CI.out m 0 64 wx)
     rw[f3] at CM;clear ht e1 e2 e3 f1 f2 f3 CI;go_enter Tryz.func36,Tryz.ntmps36
     go_wp2_with fail
     refine H1.out.mono ?_
     rintro _ w1 ⟨rfl,g1⟩;rw[<- HP.out.2.1] at g1;have d0:=(g1.cell (p:=⟨w.heap.size,0,none⟩) (by show w.heap.size<W.heap.size; rw[HP.out.2.2.1]; omega)).trans HP.out.2.2.2.1
     have t0:=(g1.cell (p:=⟨b,o,none⟩) HT.out.1).trans HT.out.2;have d3:=(HP.out.2.2.2.2.1.below g1).c0;have d4:=(HP.out.2.2.2.2.1.below g1).c1;have b6:=HP.out.2.2.2.2.2.1.below g1;have b7:=HP.out.2.2.2.2.2.2.below g1;have c6:=b6.c0;have f6:=b6.f0;have c70:=b7.c0;have c71:=b7.c1;have f70:=b7.f0;have f71:=b7.f1;have z6:=(b6.store (.slice none 0 0)).other (q:=⟨w.heap.size+3,0,none⟩) (by show w.heap.size+2≠w.heap.size+3; omega) (.int .i64 0)
     have z6':=z6.other (q:=⟨w.heap.size+3,1,none⟩) (by show w.heap.size+2≠w.heap.size+3; omega) (.int .i64 0)
     have z7:=(b7.other (q:=⟨w.heap.size+2,0,none⟩) (by show w.heap.size+3≠w.heap.size+2; omega) (.slice none 0 0)).store (.int .i64 0) (.int .i64 0)
     have y0:=z6'.c0;have y1:=z7.c0;have y2:=z7.c1;have HO:=hid (Yc (x:=2) ((((bel3 HP.out.1 g1).setCell (p:=⟨w.heap.size+2,0,none⟩) (by show w.heap.size<=w.heap.size+2; omega) (.slice none 0 0)).setCell (p:=⟨w.heap.size+3,0,none⟩) (by show w.heap.size<=w.heap.size+3; omega) (.int .i64 0)).setCell (p:=⟨w.heap.size+3,1,none⟩) (by show w.heap.size<=w.heap.size+3; omega) (.int .i64 0)))
     clear b6 b7 z6 z6' z7 g1;go_wp2_with (first | (go_at_call_of 28 (Value.int IntKind.i64 x); refine (CA.out _).mono ?_; rintro _ w9 ⟨rfl,h9⟩; (have h8:=h9.symm); subst h8) | (go_at_call_of 28 (Value.int IntKind.i64 r); refine (CB.out _).mono ?_; rintro _ w9 ⟨rfl,h9⟩; (have h8:=h9.symm); subst h8) | (go_at_call_of 28 (Value.int IntKind.i64 m); refine (CM.out _).mono ?_; rintro _ w9 ⟨rfl,h9⟩; (have h8:=h9.symm); subst h8))
     refine bodyPost_ret (v:=.tuple #[.agg #[.slice none 0 0],.agg #[.int .i64 0,.int .i64 0],.int .i64 0,.slice none 0 0,.int .i64 2]) (by simp[results,Tryz.results36,go_sem,y0,y1,y2]) rfl ?_
     exact HO.out
   ·have f2:decide (0<=r∧r<=1073741824)=false:=decide_eq_false e2
    rw[if_neg (by omega)]
    have CA:=hid (fun wx=>CI.out x 0 ((N:Int)-1) wx)
    rw[f1] at CA;have CB:=hid (fun wx=>CI.out r 0 1073741824 wx)
    rw[f2] at CB;clear ht e1 e2 f1 f2 CI;go_enter Tryz.func36,Tryz.ntmps36
    go_wp2_with fail
    refine H1.out.mono ?_
    rintro _ w1 ⟨rfl,g1⟩;rw[<- HP.out.2.1] at g1;have d0:=(g1.cell (p:=⟨w.heap.size,0,none⟩) (by show w.heap.size<W.heap.size; rw[HP.out.2.2.1]; omega)).trans HP.out.2.2.2.1
    have t0:=(g1.cell (p:=⟨b,o,none⟩) HT.out.1).trans HT.out.2;have d3:=(HP.out.2.2.2.2.1.below g1).c0;have d4:=(HP.out.2.2.2.2.1.below g1).c1;have b6:=HP.out.2.2.2.2.2.1.below g1;have b7:=HP.out.2.2.2.2.2.2.below g1;have c6:=b6.c0;have f6:=b6.f0;have c70:=b7.c0;have c71:=b7.c1;have f70:=b7.f0;have f71:=b7.f1;have z6:=(b6.store (.slice none 0 0)).other (q:=⟨w.heap.size+3,0,none⟩) (by show w.heap.size+2≠w.heap.size+3; omega) (.int .i64 0)
    have z6':=z6.other (q:=⟨w.heap.size+3,1,none⟩) (by show w.heap.size+2≠w.heap.size+3; omega) (.int .i64 0)
    have z7:=(b7.other (q:=⟨w.heap.size+2,0,none⟩) (by show w.heap.size+3≠w.heap.size+2; omega) (.slice none 0 0)).store (.int .i64 0) (.int .i64 0)
    have y0:=z6'.c0;have y1:=z7.c0;have y2:=z7.c1;have HO:=hid (Yc (x:=9) ((((bel3 HP.out.1 g1).setCell (p:=⟨w.heap.size+2,0,none⟩) (by show w.heap.size<=w.heap.size+2; omega) (.slice none 0 0)).setCell (p:=⟨w.heap.size+3,0,none⟩) (by show w.heap.size<=w.heap.size+3; omega) (.int .i64 0)).setCell (p:=⟨w.heap.size+3,1,none⟩) (by show w.heap.size<=w.heap.size+3; omega) (.int .i64 0)))
    clear b6 b7 z6 z6' z7 g1;go_wp2_with (first | (go_at_call_of 28 (Value.int IntKind.i64 x); refine (CA.out _).mono ?_; rintro _ w9 ⟨rfl,h9⟩; (have h8:=h9.symm); subst h8) | (go_at_call_of 28 (Value.int IntKind.i64 r); refine (CB.out _).mono ?_; rintro _ w9 ⟨rfl,h9⟩; (have h8:=h9.symm); subst h8))
    refine bodyPost_ret (v:=.tuple #[.agg #[.slice none 0 0],.agg #[.int .i64 0,.int .i64 0],.int .i64 0,.slice none 0 0,.int .i64 9]) (by simp[results,Tryz.results36,go_sem,y0,y1,y2]) rfl ?_
    exact HO.out
  ·have f1:decide (0<=x∧x<=(N:Int)-1)=false:=decide_eq_false e1
   rw[if_neg (by omega)]
   have CA:=hid (fun wx=>CI.out x 0 ((N:Int)-1) wx)
   rw[f1] at CA;clear ht e1 f1 CI;go_enter Tryz.func36,Tryz.ntmps36
   go_wp2_with fail
   refine H1.out.mono ?_
   rintro _ w1 ⟨rfl,g1⟩;rw[<- HP.out.2.1] at g1;have d0:=(g1.cell (p:=⟨w.heap.size,0,none⟩) (by show w.heap.size<W.heap.size; rw[HP.out.2.2.1]; omega)).trans HP.out.2.2.2.1
   have t0:=(g1.cell (p:=⟨b,o,none⟩) HT.out.1).trans HT.out.2;have d3:=(HP.out.2.2.2.2.1.below g1).c0;have d4:=(HP.out.2.2.2.2.1.below g1).c1;have b6:=HP.out.2.2.2.2.2.1.below g1;have b7:=HP.out.2.2.2.2.2.2.below g1;have c6:=b6.c0;have f6:=b6.f0;have c70:=b7.c0;have c71:=b7.c1;have f70:=b7.f0;have f71:=b7.f1;have z6:=(b6.store (.slice none 0 0)).other (q:=⟨w.heap.size+3,0,none⟩) (by show w.heap.size+2≠w.heap.size+3; omega) (.int .i64 0)
   have z6':=z6.other (q:=⟨w.heap.size+3,1,none⟩) (by show w.heap.size+2≠w.heap.size+3; omega) (.int .i64 0)
   have z7:=(b7.other (q:=⟨w.heap.size+2,0,none⟩) (by show w.heap.size+3≠w.heap.size+2; omega) (.slice none 0 0)).store (.int .i64 0) (.int .i64 0)
   have y0:=z6'.c0;have y1:=z7.c0;have y2:=z7.c1;have HO:=hid (Yc (x:=9) ((((bel3 HP.out.1 g1).setCell (p:=⟨w.heap.size+2,0,none⟩) (by show w.heap.size<=w.heap.size+2; omega) (.slice none 0 0)).setCell (p:=⟨w.heap.size+3,0,none⟩) (by show w.heap.size<=w.heap.size+3; omega) (.int .i64 0)).setCell (p:=⟨w.heap.size+3,1,none⟩) (by show w.heap.size<=w.heap.size+3; omega) (.int .i64 0)))
   clear b6 b7 z6 z6' z7 g1;go_wp2_with (first | (go_at_call_of 28 (Value.int IntKind.i64 x); refine (CA.out _).mono ?_; rintro _ w9 ⟨rfl,h9⟩; (have h8:=h9.symm); subst h8))
   refine bodyPost_ret (v:=.tuple #[.agg #[.slice none 0 0],.agg #[.int .i64 0,.int .i64 0],.int .i64 0,.slice none 0 0,.int .i64 9]) (by simp[results,Tryz.results36,go_sem,y0,y1,y2]) rfl ?_
   exact HO.out
theorem Z2P (A:Ar) (x r m:Int) (h:stepChk A x r m=0):Z2 A=true∧((0<=x∧x<many A)∧0<=r∧r<=1073741824)∧0<=m∧m<=64:=by
 have hm:Z2 A=true:=by
  unfold stepChk at h
  split at h
  ·assumption
  ·cases h
 rw[stepChk,if_pos hm] at h;have h1:(0<=x∧x<many A)∧0<=r∧r<=1073741824:=by
  split at h
  ·assumption
  ·cases h
 rw[if_pos h1] at h;have h2:0<=m∧m<=64:=by
  split at h
  ·assumption
  ·cases h
 exact⟨hm,h1,h2⟩
theorem Z2Q (A:Ar) (x r m:Int) (h:stepChk A x r m≠0):arStep A x r m=VV (stepChk A x r m):=by
 unfold stepChk at h;unfold arStep stepChk
 split
 ·split
  ·split
   ·rename_i h1 h2 h3
    rw[if_pos h1,if_pos h2,if_pos h3] at h;exact absurd rfl h
   ·rfl
  ·rfl
 ·rfl
theorem Z2Y (b o c:Nat) (h:Nat->Hd) (A:Ar) (x0:Nat) (r0:Int) (M:Nat) (w:World) (H:Arr w b o 3 h A) (hm:Z2 A=true) (hx0:x0<many A) (hr0:0<=r0) (hr1:r0<=1073741824) (hM:M<=64):
  Calls Tryz.prog 36 #[.agg #[.slice (some ⟨b,o,none⟩) 3 c],.agg #[.int .i64 (x0:Int),.int .i64 r0],.int .i64 (M:Int)] w (YR w (Uw (many A) (scN (many A) (scBegin A x0 r0) M))):=by
 obtain⟨W,hW⟩:∃ W,W=(((w.alloc (.cells #[.slice (some ⟨b,o,none⟩) 3 c] 26)).alloc (.cells #[.int .i64 (x0:Int),.int .i64 r0] 41)).alloc (.cells #[.slice none 0 0] 26)).alloc (.cells #[.int .i64 0,.int .i64 0] 41):=⟨_,rfl⟩;have hB:Below w.heap.size w W:=by rw[hW]; go_grown
 have hz:W.heap.size=w.heap.size+4:=by rw[hW]; simp
 have c0:W.cell? ⟨w.heap.size,0,none⟩=some (.slice (some ⟨b,o,none⟩) 3 c):=by rw[hW]; simp[go_sem]
 have cu:Box2 W (w.heap.size+1) (.int .i64 (x0:Int)) (.int .i64 r0):=⟨by rw[hW]; simp[go_sem],by rw[hW]; simp[go_sem],by rw[hW]; simp[go_sem],by rw[hW]; simp[go_sem],by omega⟩
 have r6:Box1 W (w.heap.size+2) (.slice none 0 0):=⟨by rw[hW]; simp[go_sem],by rw[hW]; simp[go_sem],by omega⟩
 have r7:Box2 W (w.heap.size+3) (.int .i64 0) (.int .i64 0):=⟨by rw[hW]; simp[go_sem],by rw[hW]; simp[go_sem],by rw[hW]; simp[go_sem],by rw[hW]; simp[go_sem],by omega⟩
 have hmm:=(arMay_iff A).1 hm;have hN:many A<=64:=hmm.2.2.2.1;have hN1:16<=many A:=hmm.2.2.1;have C1:=Xz (some ⟨b,o,none⟩) 3 c A W (.inr ⟨b,o,h,rfl,H.below hB⟩);rw[hm,hW] at C1;have CC:=hid (fun wx (g:Below W.heap.size W wx)=>XR (some ⟨b,o,none⟩) 3 c A wx (.inr ⟨b,o,h,rfl,(H.below hB).below g⟩) (ZN A hm))
 have HMay:=hid (fun k=>Q5 (many A) A x0 r0 hm rfl hx0 k)
 have HNx:=hid (fun k=>show (scN (many A) (scBegin A x0 r0) k).nx<many A by rw[Jq (many A) A x0 r0 hx0 k]; exact Nat.mod_lt _ (by omega))
 have HRd:=hid (fun k=>UA (many A) A x0 r0 k)
 have HCt:=hid (fun k=>Z48 (many A) A x0 r0 k)
 have HS0:=hid (show (scN (many A) (scBegin A x0 r0) 0)=⟨A,x0,r0,0,fun _=>false⟩ from rfl)
 have HS1:=hid (fun k=>show scN (many A) (scBegin A x0 r0) (k+1)=scOne (many A) (scN (many A) (scBegin A x0 r0) k) from rfl)
 generalize scN (many A) (scBegin A x0 r0)=Z at HMay HNx HRd HCt HS0 HS1;have hp:many A=(h 0).p:=(H.dv 0 (by omega)).sn.symm
 have HT:=hid (And.intro (H.below hB).lt ((H.below hB).three.1.1));have CA:=hid (fun wx=>Zm x0 0 ((many A:Int)-1) wx)
 rw[show decide ((0:Int)<=x0∧(x0:Int)<=(many A:Int)-1)=true from decide_eq_true (by omega)] at CA
 have CB:=hid (fun wx=>Zm r0 0 1073741824 wx)
 rw[show decide ((0:Int)<=r0∧r0<=1073741824)=true from decide_eq_true ⟨hr0,hr1⟩] at CB;have CM:=hid (fun wx=>Zm M 0 64 wx)
 rw[show decide ((0:Int)<=M∧(M:Int)<=64)=true from decide_eq_true (by omega)] at CM
 have mk:=run_make_row' (P:=Tryz.prog) 54 4 (.bool false) 1 Tryz.underlying54 UQ rfl .i64 .i64 (many A) (by omega) (by omega)
 rw[Qo] at mk;have H1:=hid C1;have HP:=hid (And.intro hB (And.intro hW (And.intro hz (And.intro c0 (And.intro cu (And.intro r6 r7))))));rw[<- hp] at HT;generalize many A=N at HMay HNx HS1 hN hN1 HT CA mk;generalize (h 0).x=xx at HT;generalize (h 0).c=cc at HT;generalize hPP:YR w (Uw N (Z M))=PP;have HPP:=hid hPP;clear C1 hB hW hz c0 cu r6 r7 H hm hmm hx0 hPP hp;go_enter Tryz.func36,Tryz.ntmps36
 go_wp2_with fail
 refine H1.out.mono ?_
 rintro _ w1 ⟨rfl,g1⟩;rw[<- HP.out.2.1] at g1;have d0:=(g1.cell (p:=⟨w.heap.size,0,none⟩) (by show w.heap.size<W.heap.size; rw[HP.out.2.2.1]; omega)).trans HP.out.2.2.2.1
 have t0:=(g1.cell (p:=⟨b,o,none⟩) HT.out.1).trans HT.out.2;have d3:=(HP.out.2.2.2.2.1.below g1).c0;have d4:=(HP.out.2.2.2.2.1.below g1).c1;have G1:=hid g1;clear g1 H1;go_wp2_with (first | (go_at_call_of 28 (Value.int IntKind.i64 (x0:Int)); refine (CA.out _).mono ?_; rintro _ w9 ⟨rfl,h9⟩; (have h8:=h9.symm); subst h8) | (go_at_call_of 28 (Value.int IntKind.i64 r0); refine (CB.out _).mono ?_; rintro _ w9 ⟨rfl,h9⟩; (have h8:=h9.symm); subst h8) | (go_at_call_of 28 (Value.int IntKind.i64 (M:Int)); refine (CM.out _).mono ?_; rintro _ w9 ⟨rfl,h9⟩; (have h8:=h9.symm); subst h8))
 refine (CC.out _ G1.out).mono ?_
 rintro _ w3 ⟨a3,c3,rfl,h3,g3⟩
 rcases h3 with ⟨h30,_⟩ | ⟨b3,hd3,rfl,hb3,hf3⟩
 ·omega
 have S3:=hid (Z44 (N:=N) (Jn (cc:=c3) HP.out.1 HP.out.2.2.1 HP.out.2.2.2.2.1 HP.out.2.2.2.2.2.1 HP.out.2.2.2.2.2.2 (bel3 G1.out g3) (Nat.le_trans G1.out.size hb3) hf3.arr));clear hf3 hb3 g3 d0 t0 d3 d4 G1 CC CA CB CM;go_wp2_with fail
 clear mk;rw[show (w3.alloc (.cells #[.slice (some ⟨b3,0,none⟩) 3 c3] 26)).heap.size=w3.heap.size+1 by simp] at S3
 rw[List.toArray_replicate] at S3;generalize w3.heap.size=pw at S3 ⊢;generalize pw+1=bl at S3 ⊢;generalize World.alloc (World.alloc w3 _) _=W3 at S3 ⊢;go_loopw [13,15] (fun s13 s15 wr=>∃ k:Nat,k<=M∧s13=.int .i64 (Z k).ct∧s15=.int .i64 k∧∃ b cw,Hid (StL w pw b cw (Z k).A (Z k).nx (Z k).rd bl N (Z k).lo wr)) (fun _ i _=>M-(intOf i).toNat)
 case atStart=>exact⟨0,Nat.zero_le _,by rw[HS0.out],rfl,b3,c3,by rw[HS0.out]; exact S3⟩
 case round=>
  obtain⟨k,hk,rfl,rfl,bw,cw,HB⟩:=hrel;clear S3;have cb:=HCt.out k
  by_cases hlt:k<M
  ·have hlt':(k:Int)<M:=by omega
   have hx:=HNx.out k;have hrd:=HRd.out k;have hmk:=HMay.out k;have HE:=hid (HS1.out k);have HF:Hid ((scOne N (Z k)).A=(if (arHeal (Z k).A (Z k).nx).2.2=0 then (arHeal (Z k).A (Z k).nx).1 else (Z k).A)∧(scOne N (Z k)).ct=(if (arHeal (Z k).A (Z k).nx).2.2=0 then (Z k).ct+(arHeal (Z k).A (Z k).nx).2.1 else (Z k).ct)∧(scOne N (Z k)).lo=(if (arHeal (Z k).A (Z k).nx).2.2=0 then (Z k).lo else upd (Z k).lo (Z k).nx true)∧(scOne N (Z k)).nx=(if (Z k).nx+1<N then (Z k).nx+1 else 0)∧(scOne N (Z k)).rd=(if (Z k).nx+1<N then (Z k).rd else (Z k).rd+1)):=⟨rfl,rfl,rfl,rfl,rfl⟩
   have HH:=hid (fun e=>Qu (Z k).A hmk.1 (Z k).nx (by rw[hmk.2]; exact hx) e)
   have HC1:=HCt.out (k+1);obtain⟨hw,hA⟩:=HB.out.st.ar;have C2:=hid (Jz (some ⟨bw,0,none⟩) 3 cw (Z k).nx (Z k).A wr (.inr ⟨bw,0,hw,rfl,hA⟩));have HMk:=hid hmk;clear hmk hA;rw[HE.out] at HC1;generalize scOne N (Z k)=Z1 at HE HF HC1;generalize arHeal (Z k).A (Z k).nx=R at C2 HF HH;generalize (Z k).A=Ak at C2 HF HH HMk HB;generalize (Z k).nx=x at C2 HF HH hx HB;generalize (Z k).rd=r at hrd HB HF;generalize (Z k).lo=lo at HB HF;generalize (Z k).ct=ct at HF cb ⊢;have d2:=HB.out.st.bx.c0;have d3:=HB.out.st.cu.c0;go_wp2_with fail
   refine C2.out.mono ?_
   rintro _ w4 ⟨⟨a6,n6,c6,rfl,h6⟩,g6⟩;go_upto_region 15 with fail
   obtain⟨W5,hW5⟩:∃ W5,W5=w4.alloc (.cells #[.slice a6 n6 c6] 26):=⟨_,rfl⟩;have b5:Below w4.heap.size w4 W5:=by rw[hW5]; exact (Below.refl _ w4).alloc (Nat.le_refl _) _
   have p5:W5.cell? ⟨w4.heap.size,0,none⟩=some (.slice a6 n6 c6):=by rw[hW5]; simp[go_sem]
   rw[<- hW5];have g5:=bel3 g6 b5;have S5:=hid (HB.out.to g5);have HLs:=hid (And.intro HB.out.st.bx.lt (And.intro HB.out.lo.lt HB.out.st.lt));have Q6:=hid (And.intro h6 b5);clear hW5 g6 g5 b5 h6 d2 d3 C2
   by_cases e:R.2.2=0
   ·have e':(R.2.2==0)=true:=beq_iff_eq.2 e
    have hmR:=HH.out e;have h3:=((arMay_iff R.1).1 hmR.1).1
    rcases Q6.out.1 with ⟨_,hq,_⟩ | ⟨b6,hd6,rfl,hb6,hf6⟩
    ·rw[hq] at h3; cases h3
    obtain rfl:n6=3:=by rw[hf6.arr.sn]; exact h3
    have HZ1:Hid (Z1.A=R.1∧Z1.ct=ct+R.2.1∧Z1.lo=lo):=⟨by rw[HF.out.1,if_pos e],by rw[HF.out.2.1,if_pos e],by rw[HF.out.2.2.1,if_pos e]⟩
    have hct:0<=ct+R.2.1∧ct+R.2.1<=192:=by have:=HZ1.out.2.1; omega
    have SN':=S5.out.put c6 (hf6.below Q6.out.2) (show bl<wr.heap.size from HLs.out.2.1) (show pw≠b6 by have:=HLs.out.1; omega) (show w.heap.size+4<=b6 by have:=HLs.out.2.2; omega)
    have d2:=S5.out.st.bx.c0;have d2f:=S5.out.st.bx.f0;have SN:=hid SN';clear e h3 hmR hf6 hb6 SN' HC1 cb HH S5 Q6 HB;go_upto_region 19 with fail
    obtain⟨W6,hW6⟩:∃ W6,W6=W5.setCell ⟨pw,0,none⟩ (.slice (some ⟨b6,0,none⟩) 3 c6):=⟨_,rfl⟩;rw[<- hW6] at SN ⊢;clear hW6 p5 d2 d2f;generalize R.2.1=ra at HZ1 hct HF ⊢;generalize R.1=AR at HZ1 SN HF;have d3:=SN.out.st.cu.c0;have d4:=SN.out.st.cu.c1;have d5:=SN.out.st.cu.f0;have d6:=SN.out.st.cu.f1;have SX:=hid (SN.out.next ((x:Int)+1));have k3:=SX.out.st.cu.c0;have k4:=SX.out.st.cu.c1;have k5:=SX.out.st.cu.f0;have k6:=SX.out.st.cu.f1
    by_cases e2:x+1<N
    ·have e2':¬ ((N:Int)<=(x:Int)+1):=by omega
     have HZ2:Hid ((Z1.nx:Int)=(x:Int)+1∧Z1.rd=r):=⟨by rw[HF.out.2.2.2.1,if_pos e2]; omega,by rw[HF.out.2.2.2.2,if_pos e2]⟩
     clear e2;go_wp2
     go_roundw
     case rel=>exact⟨k+1,by omega,by rw[HE.out,HZ1.out.2.1] <;> rfl,by go_num,b6,c6,by rw[HE.out,HZ1.out.1,HZ1.out.2.2,HZ2.out.1,HZ2.out.2]; exact hid SX.out⟩
     case measure=>simp[intOf]; omega
    ·have e2':(N:Int)<=(x:Int)+1:=by omega
     have HZ2:Hid ((Z1.nx:Int)=0∧Z1.rd=r+1):=⟨by rw[HF.out.2.2.2.1,if_neg e2]; rfl,by rw[HF.out.2.2.2.2,if_neg e2]⟩
     clear e2;have SY:=hid (SX.out.next 0);have l3:=SY.out.st.cu.c0;have l4:=SY.out.st.cu.c1;have l6:=SY.out.st.cu.f1;have ST:=hid (SY.out.turn (r+1));go_wp2
     go_roundw
     case rel=>exact⟨k+1,by omega,by rw[HE.out,HZ1.out.2.1] <;> rfl,by go_num,b6,c6,by rw[HE.out,HZ1.out.1,HZ1.out.2.2,HZ2.out.1,HZ2.out.2]; exact hid ST.out⟩
     case measure=>simp[intOf]; omega
   ·have e':(R.2.2==0)=false:=beq_eq_false_iff_ne.2 e
    have HZ1:Hid (Z1.A=Ak∧Z1.ct=ct∧Z1.lo=upd lo x true):=⟨by rw[HF.out.1,if_neg e],by rw[HF.out.2.1,if_neg e],by rw[HF.out.2.2.1,if_neg e]⟩
    have SN:=hid (S5.out.mark x hx);have d3:=S5.out.st.cu.c0;have m0:=S5.out.lo.cell (boolsV_at N lo x hx);have m1:=S5.out.lo.free x;have hx':(x:Int)<N:=by omega
    clear e HC1 HH S5 Q6 HB p5;go_upto_region 19 with fail
    obtain⟨W6,hW6⟩:∃ W6,W6=W5.setCell ⟨bl,x,none⟩ (.bool true):=⟨_,rfl⟩;rw[<- hW6] at SN ⊢;clear hW6 d3 m0 m1;have d3:=SN.out.st.cu.c0;have d4:=SN.out.st.cu.c1;have d5:=SN.out.st.cu.f0;have d6:=SN.out.st.cu.f1;have SX:=hid (SN.out.next ((x:Int)+1));have k3:=SX.out.st.cu.c0;have k4:=SX.out.st.cu.c1;have k5:=SX.out.st.cu.f0;have k6:=SX.out.st.cu.f1
    by_cases e2:x+1<N
    ·have e2':¬ ((N:Int)<=(x:Int)+1):=by omega
     have HZ2:Hid ((Z1.nx:Int)=(x:Int)+1∧Z1.rd=r):=⟨by rw[HF.out.2.2.2.1,if_pos e2]; omega,by rw[HF.out.2.2.2.2,if_pos e2]⟩
     clear e2;go_wp2
     go_roundw
     case rel=>exact⟨k+1,by omega,by rw[HE.out,HZ1.out.2.1] <;> rfl,by go_num,bw,cw,by rw[HE.out,HZ1.out.1,HZ1.out.2.2,HZ2.out.1,HZ2.out.2]; exact hid SX.out⟩
     case measure=>simp[intOf]; omega
    ·have e2':(N:Int)<=(x:Int)+1:=by omega
     have HZ2:Hid ((Z1.nx:Int)=0∧Z1.rd=r+1):=⟨by rw[HF.out.2.2.2.1,if_neg e2]; rfl,by rw[HF.out.2.2.2.2,if_neg e2]⟩
     clear e2;have SY:=hid (SX.out.next 0);have l3:=SY.out.st.cu.c0;have l4:=SY.out.st.cu.c1;have l6:=SY.out.st.cu.f1;have ST:=hid (SY.out.turn (r+1));go_wp2
     go_roundw
     case rel=>exact⟨k+1,by omega,by rw[HE.out,HZ1.out.2.1] <;> rfl,by go_num,bw,cw,by rw[HE.out,HZ1.out.1,HZ1.out.2.2,HZ2.out.1,HZ2.out.2]; exact hid ST.out⟩
     case measure=>simp[intOf]; omega
  ·have hlt':¬ (k:Int)<M:=by omega
   obtain rfl:k=M:=by omega
   clear hlt hk;have HRet:=hid (fun wx a2 n2 c2 (E:StB w pw bw cw (Z k).A (Z k).nx (Z k).rd wx) (hI:ZP wx a2 n2 (ups (goneOf N (Z k).lo))) (hx2:0<n2->∀ b o s,a2=some ⟨b,o,s⟩->w.heap.size+4<=b)=>show PP (.returned (.tuple #[.agg #[.slice (some ⟨bw,0,none⟩) 3 cw],.agg #[.int .i64 ((Z k).nx:Int),.int .i64 (Z k).rd],.int .i64 (Z k).ct,.slice a2 n2 c2,.int .i64 0])) _ by rw[<- HPP.out]; exact E.out c2 hI hx2 (Z k).ct)
   generalize (Z k).A=Ak at HB HRet;generalize ((Z k).nx:Int)=x at HB HRet;generalize (Z k).rd=r at HB HRet;generalize (Z k).lo=lo at HB HRet;generalize (Z k).ct=ct at HRet cb ⊢;clear HS0 HS1 HMay HNx HRd HCt HPP;go_wp2_with fail
   go_loopw [19,20] (fun v s20 wr=>∃ i:Nat,i<=N∧s20=.int .i64 i∧Hid (StL w pw bw cw Ak x r bl N lo wr)∧Hid (OwnN wr (w.heap.size+4) v (ups (goneOf i lo)))) (fun _ i _=>N-(intOf i).toNat)
   case atStart=>exact⟨0,Nat.zero_le _,rfl,HB,ownN_nil _ _⟩
   case round=>
    obtain⟨i,hi,rfl,HI,HO⟩:=hrel;clear HB
    by_cases hlt2:i<N
    ·have hlt2':(i:Int)<N:=by omega
     have m0:=HI.out.lo.cell (boolsV_at N lo i hlt2);have hgi:=Yh i lo;cases hl:lo i with
     | false=>
      rw[hl] at m0;have HU:=hid (WH i lo hl);clear hl;go_wp2
      go_roundw
      case rel=>exact⟨i+1,by omega,by go_num,HI,by rw[HU.out]; exact HO⟩
      case measure=>simp[intOf]; omega
     | true=>
      rw[hl] at m0;have HU:=hid (Tt i lo hl);clear hl;have S6:=hid (And.intro (HI.out.to ((Below.refl _ wr).alloc (Nat.le_refl _) (.cells #[.int .i64 (i:Int)] 3))) (HO.out.below ((Below.refl _ wr).alloc (Nat.le_refl _) (.cells #[.int .i64 (i:Int)] 3))));go_wp2_with (at_builtin; (refine WF _ rfl (.tmp 100) (.tmp 102) rfl (w.heap.size+4) u19 (ups (goneOf i lo)) (i:Int) rfl S6.out.2 ⟨wr.heap.size,0,none⟩ rfl (Uf wr i 3) (by rw[Xp]; omega) S6.out.1.st.lt ?_; intro g7 m7 cap7 w7 hm7 hown7 hgrow7; (have SN:=hid (And.intro (S6.out.1.grown (by omega) S6.out.2 hgrow7) hown7)); clear hown7 hgrow7 hm7))
      go_roundw
      case rel=>exact⟨i+1,by omega,by go_num,hid SN.out.1,by rw[HU.out]; exact hid SN.out.2⟩
      case measure=>simp[intOf]; omega
    ·have hlt2':¬ (i:Int)<N:=by omega
     obtain rfl:i=N:=by omega
     clear hlt2 hi;have hgi:=Yh i lo;obtain⟨a2,n2,c2,rfl,hI⟩:=Qi HO.out.own (by rw[Xp]; omega)
     have hx2:0<n2->∀ b o s,a2=some ⟨b,o,s⟩->w.heap.size+4<=b:=fun _ b o s e=>(World.ownsRow.lt HO.out.own b (by rw[e]; rfl)).1
     have EB:=hid (And.intro (HI.out.st.to ((Below.refl _ wr).drew)) (And.intro (hI.below ((Below.refl _ wr).drew)) hx2));have k0:=HI.out.st.bx.c0;have k1:=HI.out.st.cu.c0;have k2:=HI.out.st.cu.c1;have k3:=HI.out.st.r6.c0;have k4:=HI.out.st.r6.f0;have k5:=HI.out.st.r7.c0;have k6:=HI.out.st.r7.c1;have k7:=HI.out.st.r7.f0;have k8:=HI.out.st.r7.f1;have z0:(wr.setCell ⟨w.heap.size+1+1,0,none⟩ (.slice (some ⟨bw,0,none⟩) 3 cw)).cell? ⟨w.heap.size+1+1,0,none⟩=some (.slice (some ⟨bw,0,none⟩) 3 cw):=World.cell?_setCell_same _ _ _ k3
     have z1:((wr.setCell ⟨w.heap.size+1+1,0,none⟩ (.slice (some ⟨bw,0,none⟩) 3 cw)).setCell ⟨w.heap.size+1+1+1,0,none⟩ (.int .i64 x)).cell? ⟨w.heap.size+1+1+1,0,none⟩=some (.int .i64 x):=World.cell?_setCell_same _ _ _ (HI.out.st.r7.other (q:=⟨w.heap.size+1+1,0,none⟩) (by show w.heap.size+3≠w.heap.size+1+1; omega) (.slice (some ⟨bw,0,none⟩) 3 cw)).c0
     have z2:(((wr.setCell ⟨w.heap.size+1+1,0,none⟩ (.slice (some ⟨bw,0,none⟩) 3 cw)).setCell ⟨w.heap.size+1+1+1,0,none⟩ (.int .i64 x)).setCell ⟨w.heap.size+1+1+1,1,none⟩ (.int .i64 r)).cell? ⟨w.heap.size+1+1+1,1,none⟩=some (.int .i64 r):=((HI.out.st.r7.other (q:=⟨w.heap.size+1+1,0,none⟩) (by show w.heap.size+3≠w.heap.size+1+1; omega) (.slice (some ⟨bw,0,none⟩) 3 cw)).store (.int .i64 x) (.int .i64 r)).c1
     clear hI hx2 HI HO;go_wp2_with fail
     go_region
     all_goals go_wp2
     all_goals refine bodyPost_ret (v:=.tuple #[.agg #[.slice (some ⟨bw,0,none⟩) 3 cw],.agg #[.int .i64 x,.int .i64 r],.int .i64 ct,.slice a2 n2 c2,.int .i64 0]) (by simp[results,Tryz.results36,go_sem,z0,z1,z2]) rfl ?_
     all_goals exact HRet.out _ _ _ _ EB.out.1 EB.out.2.1 EB.out.2.2
theorem Z0P (a:Option Addr) (n c:Nat) (A:Ar) (x r m:Int) (w:World) (H:Z5 w a n A):
  Calls Tryz.prog 36 #[.agg #[.slice a n c],.agg #[.int .i64 x,.int .i64 r],.int .i64 m] w (YR w (arStep A x r m)):=by
 by_cases h:stepChk A x r m=0
 ·obtain⟨hm,h1,h2⟩:=Z2P A x r m h
  rw[arStep,if_pos hm,if_pos h1,if_pos h2];obtain⟨x',rfl⟩:∃ x':Nat,x=x':=⟨x.toNat,by omega⟩
  obtain⟨m',rfl⟩:∃ m':Nat,m=m':=⟨m.toNat,by omega⟩
  obtain⟨rfl,b,o,hd,rfl,HX⟩:=Z8 H hm;exact Z2Y b o c hd A x' r m' w HX hm (by omega) h1.2.1 h1.2.2 (by omega)
 ·rw[Z2Q A x r m h]
  exact Z2Z a n c A x r m w H h
end Go.Proofs.YtdnacpbgodooaaaGreatDoor
