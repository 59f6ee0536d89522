import Derived.Test.YtdnacpbgodooaaaGreatDoorDevC
import Derived.Test.YtdnacpbgodooaaaGreatDoorArrM
set_option maxHeartbeats 1600000
set_option maxRecDepth 4000
namespace Go.Proofs.YtdnacpbgodooaaaGreatDoor
open Go.RowKit Go.Lib
theorem WR (n:Int) (w:World):Calls Tryz.prog 39 #[.int .i64 n] w fun e w'=>e=.returned (.bool (decide (16<=n∧n<=64∧n % 2=0)))∧w'=w:=by
 by_cases h1:16<=n
 ·by_cases h2:n<=64
  ·have e:decide (16<=n∧n<=64∧n % 2=0)=(n % 2==0):=by rw[Bool.eq_iff_iff,decide_eq_true_eq,beq_iff_eq]; omega
   rw[e];obtain⟨N,rfl⟩:∃ N:Nat,n=N:=⟨n.toNat,by omega⟩
   have e2:((N:Int) % 2==0)=((N:Int).tmod 2==0):=by rw[Int.tmod_eq_emod_of_nonneg (by omega)]
   clear e;go_enter Tryz.func39,Tryz.ntmps39
   go_wp2
   go_ret
   first | exact⟨rfl,rfl⟩ | exact⟨Z7 e2.symm,rfl⟩
  ·have e:decide (16<=n∧n<=64∧n % 2=0)=false:=decide_eq_false (by omega)
   rw[e];clear e;have h3:64<n:=by omega
   go_enter Tryz.func39,Tryz.ntmps39
   go_wp2
   go_ret
   exact⟨rfl,rfl⟩
 ·have e:decide (16<=n∧n<=64∧n % 2=0)=false:=decide_eq_false (by omega)
  rw[e];clear e;have h3:n<16:=by omega
  go_enter Tryz.func39,Tryz.ntmps39
  go_wp2
  go_ret
  exact⟨rfl,rfl⟩
def secOf (d many:Nat):Nat:=if d=2 then many / 2 else many
theorem V8 (d many:Nat) (w:World) (hm:many<=4611686018427387904):Calls Tryz.prog 79 #[.int .i64 d,.int .i64 many] w fun e w'=>e=.returned (.int .i64 (secOf d many))∧w'=w:=by
 unfold secOf
 by_cases h:d=2
 ·subst h
  rw[if_pos rfl];go_enter Tryz.func79,Tryz.ntmps79
  go_wp2
  go_ret
  exact⟨ret_int (by omega),rfl⟩
 ·rw[if_neg h]
  have h':((d:Int)==2)=false:=by rw[beq_eq_false_iff_ne]; omega
  go_enter Tryz.func79,Tryz.ntmps79
  go_wp2
  go_ret
  exact⟨rfl,rfl⟩
theorem Z3L (n:Nat) (h:n<=1000):bits .xor .i64 (n:Int) 1=(part n:Int):=by
 have e:n ^^^ 1=part n:=by
  unfold part
  by_cases h2:n % 2=0
  ·rw[if_pos h2]
   apply Nat.eq_of_testBit_eq
   intro i;rw[Nat.testBit_xor];cases i with
   | zero=>
    have a1:(n+1) % 2=1:=by omega
    simp[Nat.testBit_zero,h2,a1]
   | succ i=>
    rw[Nat.testBit_succ,Nat.testBit_succ,Nat.testBit_succ];have e1:n / 2=(n+1) / 2:=by omega
    rw[e1]; simp
  ·rw[if_neg h2]
   apply Nat.eq_of_testBit_eq
   intro i;rw[Nat.testBit_xor];cases i with
   | zero=>
    have a1:n % 2=1:=by omega
    have a2:(n-1) % 2=0:=by omega
    simp[Nat.testBit_zero,a1,a2]
   | succ i=>
    rw[Nat.testBit_succ,Nat.testBit_succ,Nat.testBit_succ];have e1:n / 2=(n-1) / 2:=by omega
    rw[e1]; simp
 have hp:part n<=1001:=by unfold part; split <;> omega
 show IntKind.i64.wrap ((BitVec.ofInt 64 (n:Int) ^^^ BitVec.ofInt 64 ((1:Nat):Int)).toNat:Int)=_
 rw[BitVec.toNat_xor,ofInt_u64 _ (by omega),ofInt_u64 _ (by omega),e,IntKind.wrap_i64]
 omega
theorem U5 (n:Nat) (w:World) (h:n<=1000):Calls Tryz.prog 119 #[.int .i64 n] w fun e w'=>e=.returned (.int .i64 (part n))∧w'=w:=by
 have hx:=Z3L n h;go_enter Tryz.func119,Tryz.ntmps119
 go_wp2
 go_ret
 first | exact⟨ret_int hx,rfl⟩ | exact⟨rfl,rfl⟩
theorem YQ (n:Nat) (w:World) (h:n<=1000):Calls Tryz.prog 118 #[.int .i64 n] w fun e w'=>e=.returned (.int .i64 ((512+n / 2:Nat):Int))∧w'=w:=by
 go_enter Tryz.func118,Tryz.ntmps118
 go_wp2
 go_ret
 exact⟨ret_int (by omega),rfl⟩
def devNew (d many:Nat):Dv:=(dvNew (secOf d many) (if d=2 then 512 else 0)).1
def OutD (w:World) (D:Dv) (e:Ending) (w':World):Prop:=∃ a n c a' m c',e=.returned (.agg #[.slice a n c,.slice a' m c'])∧Zj w.heap.size w' a a' D∧(n=D.1.length∧m=D.2.length∧n<=maxLen∧m<=maxLen)∧Below w.heap.size w w'
theorem Ty {w W w1:World} {a a':Option Addr} {n c m c':Nat} {D:Dv} (hN:Zj W.heap.size w1 a a' D) (g:Below w.heap.size w w1) (hz:W.heap.size=w.heap.size+1) (o:Obj):
  Zj w.heap.size (((w1.alloc o).setCell ⟨w.heap.size,0,none⟩ (.slice a n c)).setCell ⟨w.heap.size,1,none⟩ (.slice a' m c')) a a' D∧Below w.heap.size w (((w1.alloc o).setCell ⟨w.heap.size,0,none⟩ (.slice a n c)).setCell ⟨w.heap.size,1,none⟩ (.slice a' m c')):=by
 refine⟨((((hN.below' ((Below.refl _ w1).alloc (Nat.le_refl _) o)).other (p:=⟨w.heap.size,0,none⟩) (by show w.heap.size<_; omega) _).other (p:=⟨w.heap.size,1,none⟩) (by show w.heap.size<_; omega) _).less (by omega)),?_⟩
 exact ((g.alloc g.size o).setCell (p:=⟨w.heap.size,0,none⟩) (Nat.le_refl _) _).setCell (p:=⟨w.heap.size,1,none⟩) (Nat.le_refl _) _
theorem Vc (d many:Nat) (w:World) (hm:many<=64):Calls Tryz.prog 40 #[.int .i64 d,.int .i64 many] w (OutD w (devNew d many)):=by
 obtain⟨W,hW⟩:∃ W,W=w.alloc (.cells #[.slice none 0 0,.slice none 0 0] 56):=⟨_,rfl⟩;have bd:Box2 W w.heap.size (.slice none 0 0) (.slice none 0 0):=by rw[hW]; exact box2_of (Own.made w 56 [.slice none 0 0,.slice none 0 0])
 have hB:Below w.heap.size w W:=by rw[hW]; exact (Below.refl _ w).alloc (Nat.le_refl _) _
 have hz:W.heap.size=w.heap.size+1:=by rw[hW]; simp
 have C0:=hid (fun wx=>V8 d many wx (by omega))
 have HP:=hid (And.intro hB (And.intro hz bd));unfold devNew;clear hB hz bd
 by_cases h:d=2
 ·rw[if_pos h]
  have h':((d:Int)==2)=true:=by rw[beq_iff_eq]; omega
  have C1:=hid (fun wx=>Z4H (secOf d many) 512 wx)
  generalize dvNew (secOf d many) 512=r at C1;generalize secOf d many=q at C0 C1;clear h;go_enter Tryz.func40,Tryz.ntmps40
  go_upto_region 1 with fail
  rw[<- hW];clear hW;go_wp2_with (first | (go_at_call 79; refine (C0.out _).mono ?_; rintro _ w9 ⟨rfl,h9⟩; (have h8:=h9.symm); subst h8) | (go_at_call 78; refine (C1.out _).mono ?_; rintro _ w1 ⟨a,n,c,a',m,c',rfl,hN,hl,hF,g1⟩; (have rb:=HP.out.2.2.below g1); (have rb2:=rb.below ((Below.refl _ w1).alloc (Nat.le_refl _) (.cells #[.slice a n c,.slice a' m c'] 56))); (have v0:=rb2.c0); (have v1:=rb2.c1); (have x0:=rb2.f0); (have x1:=rb2.f1); (have y:=Z6 (.slice a n c) (.slice a' m c') v0 v1); (have y0:=y.1); (have y1:=y.2); (have K:=hid (And.intro (Ty (n:=n) (c:=c) (m:=m) (c':=c') hN (HP.out.1.trans (g1.mono HP.out.1.size)) HP.out.2.1 (.cells #[.slice a n c,.slice a' m c'] 56)) hl)); clear hN hl hF g1 rb rb2 y))
  refine bodyPost_ret (v:=.agg #[.slice a n c,.slice a' m c']) (by simp[results,Tryz.results40,go_sem,y0,y1]) rfl ?_
  exact⟨_,_,_,_,_,_,rfl,K.out.1.1,K.out.2,K.out.1.2⟩
 ·rw[if_neg h]
  have h':((d:Int)==2)=false:=by rw[beq_eq_false_iff_ne]; omega
  have C1:=hid (fun wx=>Z4H (secOf d many) 0 wx)
  generalize dvNew (secOf d many) 0=r at C1;generalize secOf d many=q at C0 C1;clear h;go_enter Tryz.func40,Tryz.ntmps40
  go_upto_region 1 with fail
  rw[<- hW];clear hW;go_wp2_with (first | (go_at_call 79; refine (C0.out _).mono ?_; rintro _ w9 ⟨rfl,h9⟩; (have h8:=h9.symm); subst h8) | (go_at_call 78; refine (C1.out _).mono ?_; rintro _ w1 ⟨a,n,c,a',m,c',rfl,hN,hl,hF,g1⟩; (have rb:=HP.out.2.2.below g1); (have rb2:=rb.below ((Below.refl _ w1).alloc (Nat.le_refl _) (.cells #[.slice a n c,.slice a' m c'] 56))); (have v0:=rb2.c0); (have v1:=rb2.c1); (have x0:=rb2.f0); (have x1:=rb2.f1); (have y:=Z6 (.slice a n c) (.slice a' m c') v0 v1); (have y0:=y.1); (have y1:=y.2); (have K:=hid (And.intro (Ty (n:=n) (c:=c) (m:=m) (c':=c') hN (HP.out.1.trans (g1.mono HP.out.1.size)) HP.out.2.1 (.cells #[.slice a n c,.slice a' m c'] 56)) hl)); clear hN hl hF g1 rb rb2 y))
  refine bodyPost_ret (v:=.agg #[.slice a n c,.slice a' m c']) (by simp[results,Tryz.results40,go_sem,y0,y1]) rfl ?_
  exact⟨_,_,_,_,_,_,rfl,K.out.1.1,K.out.2,K.out.1.2⟩
end Go.Proofs.YtdnacpbgodooaaaGreatDoor
namespace Go.Proofs.YtdnacpbgodooaaaGreatDoor
open Go.RowKit Go.Lib
theorem Z5T (a:Option Addr) (n c:Nat) (w:World) (h:n≠3):
  Calls Tryz.prog 55 #[.agg #[.slice a n c]] w fun e w'=>e=.returned (.int .i64 9)∧Below w.heap.size w w':=by
 have h':((n:Int) != 3)=true:=by rw[bne_iff_ne]; omega
 go_enter Tryz.func55,Tryz.ntmps55
 go_wp2
 go_ret
 exact⟨rfl,by go_grown⟩
theorem Z5M (A:Ar) (k:Nat) (hk:k<3) (h:(dev A k).1.length≠secOf k (many A)):Z2 A=false:=by
 rw[Bool.eq_false_iff];intro hm;obtain⟨_,_,_,_,_,h1,h2⟩:=(arMay_iff A).1 hm;unfold secOf at h
 match k,hk with
 | 0,_=>simp[many] at h
 | 1,_=>simp at h; exact h h1
 | 2,_=>simp at h; exact h h2
theorem Z3E (A:Ar) (h:¬ (16<=many A∧many A<=64∧many A % 2=0)):Z2 A=false:=by
 rw[Bool.eq_false_iff];intro hm;obtain⟨_,_,h1,h2,h3,_⟩:=(arMay_iff A).1 hm;exact h ⟨h1,h2,h3⟩
theorem Z5L (A:Ar) (h3:A.length=3) (hn:16<=many A∧many A<=64∧many A % 2=0) (h:∀ j,j<3->dvMay (dev A j)=true∧(dev A j).1.length=secOf j (many A)):Z2 A=true:=by
 rw[Z0m A h3 (fun j hj=>(h j hj).1),decide_eq_true_eq]
 exact⟨hn.1,hn.2.1,hn.2.2,by simpa[secOf] using (h 1 (by omega)).2,by simpa[secOf] using (h 2 (by omega)).2⟩
theorem XE (A:Ar) (h:Z2 A=false):Z3F A=9:=by rw[Z3F,h]; rfl
theorem XQ (A:Ar) (h:Z2 A=true):Z3F A=0:=by rw[Z3F,h]; rfl
theorem Z0r (b o c:Nat) (h:Nat->Hd) (A:Ar) (w:World) (H:Arr w b o 3 h A):
  Calls Tryz.prog 55 #[.agg #[.slice (some ⟨b,o,none⟩) 3 c]] w fun e w'=>e=.returned (.int .i64 (Z3F A))∧Below w.heap.size w w':=by
 obtain⟨W,hW⟩:∃ W,W=w.alloc (.cells #[.slice (some ⟨b,o,none⟩) 3 c] 26):=⟨_,rfl⟩;have hB:Below w.heap.size w W:=by rw[hW]; go_grown
 have hz:W.heap.size=w.heap.size+1:=by rw[hW]; simp
 have c0:W.cell? ⟨w.heap.size,0,none⟩=some (.slice (some ⟨b,o,none⟩) 3 c):=by rw[hW]; simp
 have HA:=H.below hB;obtain⟨⟨t0,t1⟩,_⟩:=HA.three;have s0:many A=(h 0).p:=(HA.dv 0 (by omega)).sn.symm
 have nb:=(HA.dv 0 (by omega)).nb
 unfold maxLen at nb;have C0:=hid (fun wx=>WR (many A:Int) wx)
 have HP:=hid (And.intro hB (And.intro hz (And.intro c0 HA)));rw[<- s0] at t0 nb
 by_cases hn:16<=many A∧many A<=64∧many A % 2=0
 ·rw[decide_eq_true (show (16:Int)<=(many A:Int)∧(many A:Int)<=64∧(many A:Int) % 2=0 by omega)] at C0
  have HQ:=hid (And.intro HA.sn.symm hn);generalize hM:many A=M at C0 t0 nb HQ;have HM:=hid hM;have hM64:M<=64:=by have:=HQ.out.2.2.1; exact this
  clear hM hB hz H HA s0 nb hn;rw[hW] at c0 t0;go_enter Tryz.func55,Tryz.ntmps55
  go_wp2_with (go_at_call 39; refine (C0.out _).mono ?_; rintro _ w9 ⟨rfl,h9⟩; (have h8:=h9.symm); subst h8)
  rw[<- hW];clear hW c0 t0 C0;go_loopw [22] (fun i wr=>∃ k:Nat,k<=3∧i=.int .i64 k∧Below W.heap.size W wr∧Hid (∀ j,j<k->dvMay (dev A j)=true∧(dev A j).1.length=secOf j M)) (fun i _=>3-(intOf i).toNat)
  case atStart=>exact⟨0,by omega,rfl,Below.refl _ _,fun j hj=>absurd hj (Nat.not_lt_zero _)⟩
  case round=>
   obtain⟨k,hk,rfl,hB,HR⟩:=hrel
   by_cases hlt:k<3
   ·have hlt':(k:Int)<3:=by omega
    have HA:=HP.out.2.2.2.below hB;have d0:=HA.c0 k hlt;have d1:=HA.c1 k hlt;have sp:=(HA.dv k hlt).sn;have hC:=fun wx (g:Below W.heap.size W wx)=>T1 (h k).x (h k).p (h k).c (h k).y (h k).q (h k).d (dev A k) wx ((HP.out.2.2.2.below g).dv k hlt)
    have CS:=hid (fun wx=>V8 k M wx (by omega))
    obtain⟨V,hV⟩:∃ V,V=wr.alloc (.cells #[.slice (h k).x (h k).p (h k).c,.slice (h k).y (h k).q (h k).d] 56):=⟨_,rfl⟩;have bV:Below wr.heap.size wr V:=by rw[hV]; exact (Below.refl _ wr).alloc (Nat.le_refl _) _
    have bx:Box2 V wr.heap.size (.slice (h k).x (h k).p (h k).c) (.slice (h k).y (h k).q (h k).d):=by rw[hV]; exact box2_of (Own.made wr 56 [.slice (h k).x (h k).p (h k).c,.slice (h k).y (h k).q (h k).d])
    have HV:=hid (And.intro (bel3 hB bV) bx)
    by_cases hm:dvMay (dev A k)=true
    ·have e0:UW (dev A k)=0:=by rw[UW,if_pos hm]
     rw[e0] at hC;have HC:=hid hC
     by_cases hs:(h k).p=secOf k M
     ·have hs':(((h k).p:Int) != (secOf k M:Int))=false:=by rw[bne_eq_false_iff_eq]; omega
      have R:Hid (∀ j,j<k+1->dvMay (dev A j)=true∧(dev A j).1.length=secOf j M):=fun j hj=>by
       by_cases e:j=k
       ·rw[e]; exact⟨hm,by rw[<- sp]; exact hs⟩
       ·exact HR.out j (by omega)
      clear hC HA hm hB HR e0 sp bV bx hs;go_wp2_with fail
      rw[<- hV];clear hV d0 d1;have x0:=HV.out.2.c0;have x1:=HV.out.2.c1;go_region_held3 (fun w'=>w'.cell? ⟨wr.heap.size,0,none⟩=some (.slice (h k).x (h k).p (h k).c)∧w'.cell? ⟨wr.heap.size,1,none⟩=some (.slice (h k).y (h k).q (h k).d)) (go_keep)
       (first | (go_at_call 79; refine (CS.out _).mono ?_; rintro _ w9 ⟨rfl,h9⟩; (have h8:=h9.symm); subst h8) | (go_at_call 109; refine (HC.out _ HV.out.1.drew).mono ?_; rintro _ w4 ⟨rfl,g4⟩; (have G4:=hid (bel3 HV.out.1.drew g4)); (have j0:=(HV.out.2.below (undrew g4)).c0); (have j1:=(HV.out.2.below (undrew g4)).c1); clear g4))
      all_goals go_wp2
      all_goals go_roundw
      all_goals (first | (case rel=>exact⟨k+1,by omega,by go_num,G4.out,R⟩) | skip)
      all_goals (simp[intOf]; omega)
     ·have hs':(((h k).p:Int) != (secOf k M:Int))=true:=by rw[bne_iff_ne]; omega
      have HF:=hid (XE A (Z5M A k hlt (by rw[HM.out,<- sp]; exact hs)))
      clear hC HA hm hB HR e0 sp bV bx hs;go_wp2_with fail
      rw[<- hV];clear hV d0 d1;have x0:=HV.out.2.c0;have x1:=HV.out.2.c1;go_region_held3 (fun w'=>w'.cell? ⟨wr.heap.size,0,none⟩=some (.slice (h k).x (h k).p (h k).c)∧w'.cell? ⟨wr.heap.size,1,none⟩=some (.slice (h k).y (h k).q (h k).d)) (go_keep)
       (first | (go_at_call 79; refine (CS.out _).mono ?_; rintro _ w9 ⟨rfl,h9⟩; (have h8:=h9.symm); subst h8) | (go_at_call 109; refine (HC.out _ HV.out.1.drew).mono ?_; rintro _ w4 ⟨rfl,g4⟩; (have G4:=hid (bel3 HV.out.1.drew g4)); (have j0:=(HV.out.2.below (undrew g4)).c0); (have j1:=(HV.out.2.below (undrew g4)).c1); clear g4))
      all_goals go_wp2
      all_goals go_ret
      all_goals exact⟨ret_int HF.out.symm,bel3 HP.out.1 G4.out⟩
    ·have e0:UW (dev A k)=9:=by rw[UW,if_neg hm]
     rw[e0] at hC;have HC:=hid hC;have HF:=hid (XE A (Z0l A k (by rw[HQ.out.1]; exact hlt) (by simpa using hm)))
     clear hC HA hm hB HR e0 sp bV bx;go_wp2_with fail
     rw[<- hV];clear hV d0 d1;have x0:=HV.out.2.c0;have x1:=HV.out.2.c1
     first | (go_region_with (go_at_call 109; refine (HC.out _ HV.out.1.drew).mono ?_; rintro _ w4 ⟨rfl,g4⟩; (have G4:=hid (bel3 HV.out.1.drew g4)); (have j0:=(HV.out.2.below (undrew g4)).c0); (have j1:=(HV.out.2.below (undrew g4)).c1); clear g4)) | fail
     all_goals go_wp2
     all_goals go_ret
     all_goals exact⟨ret_int HF.out.symm,bel3 HP.out.1 G4.out⟩
   ·obtain rfl:k=3:=by omega
    have hnl:¬ ((3:Nat):Int)<3:=by omega
    have HF:=hid (XQ A (Z5L A HQ.out.1 (by rw[HM.out]; exact HQ.out.2) (by rw[HM.out]; exact HR.out)))
    have HB:=hid hB;clear hB HR;go_wp2
    go_ret
    exact⟨ret_int HF.out.symm,bel3 HP.out.1 HB.out⟩
 ·rw[decide_eq_false (show ¬ ((16:Int)<=(many A:Int)∧(many A:Int)<=64∧(many A:Int) % 2=0) by omega)] at C0
  have HF:=hid (XE A (Z3E A hn));generalize hM:many A=M at C0 t0 nb;clear hM hB hz H HA s0 nb hn;rw[hW] at c0 t0;go_enter Tryz.func55,Tryz.ntmps55
  go_wp2_with (go_at_call 39; refine (C0.out _).mono ?_; rintro _ w9 ⟨rfl,h9⟩; (have h8:=h9.symm); subst h8)
  go_ret
  exact⟨ret_int HF.out.symm,by go_grown⟩
theorem Xt (a:Option Addr) (n c:Nat) (A:Ar) (w:World) (H:Z5 w a n A):
  Calls Tryz.prog 55 #[.agg #[.slice a n c]] w fun e w'=>e=.returned (.int .i64 (Z3F A))∧Below w.heap.size w w':=by
 by_cases h3:n=3
 ·rcases H with ⟨h0,_⟩ | ⟨b,o,h,rfl,H⟩
  ·omega
  ·subst h3
   exact Z0r b o c h A w H
 ·rw[XE A (Z0k A (by rw[<- H.len]; exact h3))]
  exact Z5T a n c w h3
end Go.Proofs.YtdnacpbgodooaaaGreatDoor
namespace Go.Proofs.YtdnacpbgodooaaaGreatDoor
open Go.RowKit Go.Lib
theorem Z3D (A:Ar) (i:Int) (h:Z2 A=false):arTouch A i=9:=by rw[arTouch,h]; rfl
theorem Xn (a:Option Addr) (n c:Nat) (i:Int) (A:Ar) (w:World) (H:Z5 w a n A):
  Calls Tryz.prog 116 #[.agg #[.slice a n c],.int .i64 i] w fun e w'=>e=.returned (.int .i64 (arTouch A i))∧Below w.heap.size w w':=by
 obtain⟨W,hW⟩:∃ W,W=w.alloc (.cells #[.slice a n c] 26):=⟨_,rfl⟩;have hB:Below w.heap.size w W:=by rw[hW]; go_grown
 have hz:W.heap.size=w.heap.size+1:=by rw[hW]; simp
 have c0:W.cell? ⟨w.heap.size,0,none⟩=some (.slice a n c):=by rw[hW]; simp
 have hM:=Xt a n c A W (H.below hB);rw[hW] at hM;cases hm:Z2 A with
 | false=>
  rw[XE A hm] at hM;rw[Z3D A i hm];have HM:=hid hM;have HP:=hid (And.intro hB hW);clear hM hB hz c0 H hm hW;go_enter Tryz.func116,Tryz.ntmps116
  go_wp2_with fail
  refine HM.out.mono ?_
  rintro _ w1 ⟨rfl,g1⟩;rw[<- HP.out.2] at g1;go_wp2
  go_ret
  exact⟨rfl,HP.out.1.trans (g1.mono HP.out.1.size)⟩
 | true=>
  rw[XQ A hm] at hM;have ha:arTouch A i=if 0<=i∧i<many A then 0 else 6:=by rw[arTouch,if_pos hm]
  rw[ha];have hmm:=(arMay_iff A).1 hm;obtain⟨rfl,b,o,h,rfl,HX⟩:=Z8 H hm;clear H;have H:=HX;clear HX;have HA:=H.below hB;obtain⟨⟨t0,_⟩,_⟩:=HA.three;have s0:many A=(h 0).p:=(HA.dv 0 (by omega)).sn.symm
  have nb:(h 0).p<=64:=by rw[<- s0]; exact hmm.2.2.2.1
  rw[s0];have HM:=hid hM;have HP:=hid (And.intro hB (And.intro hW (And.intro hz (And.intro c0 (And.intro t0 HA.lt)))));clear hM hB hz c0 H HA hm hW t0 s0 hmm ha;generalize (h 0).p=p at nb HP
  by_cases h1:i<0
  ·rw[if_neg (by omega)]
   go_enter Tryz.func116,Tryz.ntmps116
   go_wp2_with fail
   refine HM.out.mono ?_
   rintro _ w1 ⟨rfl,g1⟩;rw[<- HP.out.2.1] at g1;go_wp2
   go_ret
   exact⟨rfl,HP.out.1.trans (g1.mono HP.out.1.size)⟩
  ·by_cases h2:(p:Int)<=i
   ·rw[if_neg (by omega)]
    go_enter Tryz.func116,Tryz.ntmps116
    go_wp2_with fail
    refine HM.out.mono ?_
    rintro _ w1 ⟨rfl,g1⟩;rw[<- HP.out.2.1] at g1;have d0:=(g1.cell (p:=⟨w.heap.size,0,none⟩) (by show w.heap.size<W.heap.size; rw[HP.out.2.2.1]; omega)).trans HP.out.2.2.2.1
    have d1:=(g1.cell (p:=⟨b,o,none⟩) HP.out.2.2.2.2.2).trans HP.out.2.2.2.2.1;have HG:=hid g1;clear g1;go_wp2
    go_ret
    exact⟨rfl,HP.out.1.trans (HG.out.mono HP.out.1.size)⟩
   ·rw[if_pos (by omega)]
    have h3:i<(p:Int):=by omega
    go_enter Tryz.func116,Tryz.ntmps116
    go_wp2_with fail
    refine HM.out.mono ?_
    rintro _ w1 ⟨rfl,g1⟩;rw[<- HP.out.2.1] at g1;have d0:=(g1.cell (p:=⟨w.heap.size,0,none⟩) (by show w.heap.size<W.heap.size; rw[HP.out.2.2.1]; omega)).trans HP.out.2.2.2.1
    have d1:=(g1.cell (p:=⟨b,o,none⟩) HP.out.2.2.2.2.2).trans HP.out.2.2.2.2.1;have HG:=hid g1;clear g1;go_wp2
    go_ret
    exact⟨rfl,HP.out.1.trans (HG.out.mono HP.out.1.size)⟩
theorem YY (b o c:Nat) (h:Nat->Hd) (A:Ar) (n:Nat) (w:World) (H:Arr w b o 3 h A):
  Calls Tryz.prog 117 #[.agg #[.slice (some ⟨b,o,none⟩) 3 c],.int .i64 n] w fun e w'=>e=.returned (.tuple #[.string (str (mirr A n).1),.int .i64 (mirr A n).2])∧Below w.heap.size w w':=by
 obtain⟨W,hW⟩:∃ W,W=w.alloc (.cells #[.slice (some ⟨b,o,none⟩) 3 c] 26):=⟨_,rfl⟩;have hB:Below w.heap.size w W:=by rw[hW]; go_grown
 have hz:W.heap.size=w.heap.size+1:=by rw[hW]; simp
 have c0:W.cell? ⟨w.heap.size,0,none⟩=some (.slice (some ⟨b,o,none⟩) 3 c):=by rw[hW]; simp
 have HA:=H.below hB;have h1:=Va (h 0).x (h 0).p (h 0).c (h 0).y (h 0).q (h 0).d n n (dev A 0) W (HA.dv 0 (by omega))
 have h2:=fun wx (g:Below W.heap.size W wx)=>Va (h 1).x (h 1).p (h 1).c (h 1).y (h 1).q (h 1).d n n (dev A 1) wx ((HA.below g).dv 1 (by omega))
 obtain⟨⟨t0,t1⟩,⟨t2,t3⟩,_,_⟩:=HA.three;unfold mirr;generalize dvRead (dev A 0) n n=r0 at h1;generalize dvRead (dev A 1) n n=r1 at h2;have HP:=hid (And.intro hB (And.intro hz (And.intro c0 (And.intro t2 (And.intro t3 HA.lt)))));rw[hW] at h1 t0 t1;have H1:=hid h1;have H2:=hid h2;have HE:=hid hW;clear h1 h2 hW hB hz c0 t2 t3 HA H
 by_cases e0:r0.2=0
 ·rw[if_pos e0]
  have e0':(r0.2==0)=true:=beq_iff_eq.2 e0;go_enter Tryz.func117,Tryz.ntmps117
  go_wp2_with fail
  refine H1.out.mono ?_
  rintro _ w1 ⟨rfl,g1⟩;rw[<- HE.out] at g1;go_wp2
  go_ret2
  exact⟨rfl,HP.out.1.trans (g1.mono HP.out.1.size)⟩
 ·rw[if_neg e0]
  have e0':(r0.2==0)=false:=beq_eq_false_iff_ne.2 e0
  by_cases e1:r1.2=0
  ·rw[if_pos e1]
   have e1':(r1.2==0)=true:=beq_iff_eq.2 e1;clear e0 e1;go_enter Tryz.func117,Tryz.ntmps117
   go_wp2_with fail
   refine H1.out.mono ?_
   rintro _ w1 ⟨rfl,g1⟩;rw[<- HE.out] at g1;have c0:=(g1.cell (p:=⟨w.heap.size,0,none⟩) (by show w.heap.size<W.heap.size; rw[HP.out.2.1]; omega)).trans HP.out.2.2.1
   have c2:=(g1.cell (p:=⟨b,o+2,none⟩) HP.out.2.2.2.2.2).trans HP.out.2.2.2.1;have c3:=(g1.cell (p:=⟨b,o+3,none⟩) HP.out.2.2.2.2.2).trans HP.out.2.2.2.2.1;have G1:=hid g1;clear g1 t0 t1;go_wp2_with fail
   refine (H2.out _ G1.out).mono ?_
   rintro _ w2 ⟨rfl,g2⟩;go_wp2
   go_ret2
   exact⟨rfl,HP.out.1.trans ((G1.out.trans (g2.mono G1.out.size)).mono HP.out.1.size)⟩
  ·rw[if_neg e1]
   have e1':(r1.2==0)=false:=beq_eq_false_iff_ne.2 e1;clear e0 e1;go_enter Tryz.func117,Tryz.ntmps117
   go_wp2_with fail
   refine H1.out.mono ?_
   rintro _ w1 ⟨rfl,g1⟩;rw[<- HE.out] at g1;have c0:=(g1.cell (p:=⟨w.heap.size,0,none⟩) (by show w.heap.size<W.heap.size; rw[HP.out.2.1]; omega)).trans HP.out.2.2.1
   have c2:=(g1.cell (p:=⟨b,o+2,none⟩) HP.out.2.2.2.2.2).trans HP.out.2.2.2.1;have c3:=(g1.cell (p:=⟨b,o+3,none⟩) HP.out.2.2.2.2.2).trans HP.out.2.2.2.2.1;have G1:=hid g1;clear g1 t0 t1;go_wp2_with fail
   refine (H2.out _ G1.out).mono ?_
   rintro _ w2 ⟨rfl,g2⟩;go_wp2
   go_ret2
   exact⟨rfl,HP.out.1.trans ((G1.out.trans (g2.mono G1.out.size)).mono HP.out.1.size)⟩
theorem Xo (a:Option Addr) (n c:Nat) (i:Int) (A:Ar) (w:World) (H:Z5 w a n A):
  Calls Tryz.prog 59 #[.agg #[.slice a n c],.int .i64 i] w fun e w'=>e=.returned (.tuple #[.string (str (arRead A i).1),.int .i64 (arRead A i).2.1,.int .i64 (arRead A i).2.2])∧Below w.heap.size w w':=by
 obtain⟨W,hW⟩:∃ W,W=w.alloc (.cells #[.slice a n c] 26):=⟨_,rfl⟩;have hB:Below w.heap.size w W:=by rw[hW]; go_grown
 have hz:W.heap.size=w.heap.size+1:=by rw[hW]; simp
 have c0:W.cell? ⟨w.heap.size,0,none⟩=some (.slice a n c):=by rw[hW]; simp
 have hT:=Xn a n c i A W (H.below hB);rw[hW] at hT
 by_cases ht:arTouch A i=0
 ·obtain⟨hm,h0,h1⟩:=Xh A i ht
  have hmm:=(arMay_iff A).1 hm;obtain⟨k,rfl⟩:∃ k:Nat,i=k:=⟨i.toNat,by omega⟩
  have hto:(k:Int).toNat=k:=by omega
  rw[arRead,if_pos ht,hto];rw[ht] at hT;obtain⟨rfl,b,o,h,rfl,HX⟩:=Z8 H hm;clear H;have H:=HX;clear HX;have HT:=hid hT;have HP:=hid (And.intro hB (And.intro hW (And.intro hz (And.intro c0 (H.below hB)))));have hk64:k<=64:=by omega
  have C1:=hid (fun wx (g:Below W.heap.size W wx)=>YY b o c h A k wx ((H.below hB).below g))
  clear hT hB hz c0 H hm hW ht h0 h1 hto hmm;unfold tell
  by_cases e1:0<(mirr A k).2
  ·rw[if_pos e1]
   generalize mirr A k=r at C1 e1;have e1':(r.2 != 0)=true:=by rw[bne_iff_ne]; omega
   go_enter Tryz.func59,Tryz.ntmps59
   go_wp2_with fail
   refine HT.out.mono ?_
   rintro _ w1 ⟨rfl,g1⟩;rw[<- HP.out.2.1] at g1;have d0:=(g1.cell (p:=⟨w.heap.size,0,none⟩) (by show w.heap.size<W.heap.size; rw[HP.out.2.2.1]; omega)).trans HP.out.2.2.2.1
   have G1:=hid g1;clear g1;go_wp2_with fail
   refine (C1.out _ G1.out).mono ?_
   rintro _ w2 ⟨rfl,g2⟩;go_wp2
   go_ret3
   exact⟨rfl,HP.out.1.trans ((G1.out.trans (g2.mono G1.out.size)).mono HP.out.1.size)⟩
  ·rw[if_neg e1]
   have e1':(mirr A k).2=0:=by rcases Qn A k with h | h; exact h; exact absurd h e1
   have e1'':((mirr A k).2 != 0)=false:=by rw[bne_eq_false_iff_eq]; exact e1'
   have C0:=hid (fun wx=>U5 k wx (by omega))
   have CP:=hid (fun wx=>YQ k wx (by omega))
   have C2:=hid (fun wx (g:Below W.heap.size W wx)=>YY b o c h A (part k) wx (HP.out.2.2.2.2.below g))
   have C3:=hid (fun wx (g:Below W.heap.size W wx)=>Va (h 2).x (h 2).p (h 2).c (h 2).y (h 2).q (h 2).d ((k / 2:Nat):Int) ((512+k / 2:Nat):Int) (dev A 2) wx ((HP.out.2.2.2.2.below g).dv 2 (by omega)))
   have hb:=Qn A (part k);have hl:=mirr_len A (part k);have hp:(pari A k).2=0->(pari A k).1.length=24:=Yi _ _ _;change Hid (∀ wx,Below W.heap.size W wx->Calls Tryz.prog _ _ wx fun e w'=>e=.returned (.tuple #[.string (str (pari A k).1),.int .i64 (pari A k).2])∧Below wx.heap.size wx w') at C3
   generalize mirr A k=r0 at C1 e1 e1' e1'';generalize mirr A (part k)=r1 at C2 hb hl;generalize pari A k=r2 at C3 hp;have u1:IntKind.i64.wrap ((k:Int) / 2)=((k / 2:Nat):Int):=by rw[IntWalk.i64_in _ (by omega)]; omega
   have HL:=hid (And.intro hb (And.intro hl hp));generalize hF:(if r1.2=0∨r2.2≠0 then (([],0,11):List UInt8 × Int × Int) else (xors r2.1 r1.1,3,0))=F
   have HF:=hid hF;clear hF;clear e1 hb hl hp;generalize ((512+k / 2:Nat):Int)=R at C3 CP;generalize ((k / 2:Nat):Int)=Q at C3 u1;go_enter Tryz.func59,Tryz.ntmps59
   go_wp2_with fail
   refine HT.out.mono ?_
   rintro _ w1 ⟨rfl,g1⟩;rw[<- HP.out.2.1] at g1;have d0:=(g1.cell (p:=⟨w.heap.size,0,none⟩) (by show w.heap.size<W.heap.size; rw[HP.out.2.2.1]; omega)).trans HP.out.2.2.2.1
   have G1:=hid g1;clear g1 HT;go_wp2_with fail
   refine (C1.out _ G1.out).mono ?_
   rintro _ w2 ⟨rfl,g2⟩;have G2:=hid (G1.out.trans (g2.mono G1.out.size));clear g2 G1 C1 d0;have d0:=(G2.out.cell (p:=⟨w.heap.size,0,none⟩) (by show w.heap.size<W.heap.size; rw[HP.out.2.2.1]; omega)).trans HP.out.2.2.2.1
   obtain⟨_,_,t4,t5⟩:=(HP.out.2.2.2.2.below G2.out).three;go_upto_region 7 with fail
   go_cut [10,11] (fun s10 s11 wx=>s10=.string (str r2.1)∧s11=.int .i64 r2.2∧Below W.heap.size W wx)
   case first=>
    go_region_held3 (fun w'=>w'.cell? ⟨w.heap.size,0,none⟩=some (.slice (some ⟨b,o,none⟩) 3 c)∧w'.cell? ⟨b,o+4,none⟩=some (.slice (h 2).x (h 2).p (h 2).c)∧w'.cell? ⟨b,o+5,none⟩=some (.slice (h 2).y (h 2).q (h 2).d)) (go_keep)
     (first | (go_at_call 118; refine (CP.out _).mono ?_; rintro _ w9 ⟨rfl,h9⟩; (have h8:=h9.symm); subst h8) | (go_at_call 114; refine (C3.out _ G2.out.drew).mono ?_; rintro _ w9 ⟨rfl,g9⟩; (have G9:=hid (G2.out.drew.trans (g9.mono G2.out.drew.size))); (have j0:=(G9.out.cell (p:=⟨w.heap.size,0,none⟩) (by show w.heap.size<W.heap.size; rw[HP.out.2.2.1]; omega)).trans HP.out.2.2.2.1); (have j4:=(HP.out.2.2.2.2.below G9.out).three.2.2.1); (have j5:=(HP.out.2.2.2.2.below G9.out).three.2.2.2); clear g9))
    all_goals (go_wp2_with fail; go_meet)
    all_goals exact⟨rfl,rfl,G9.out⟩
   case rest=>
    obtain⟨rfl,rfl,hB⟩:=hcut;have G3:=hid hB;clear hB G2 d0 t4 t5 C3 CP u1
    by_cases f2:r2.2=0
    ·have f2':(r2.2 != 0)=false:=bne_eq_false_iff_eq.2 f2
     have F2:=hid f2;clear f2;have d0:=(G3.out.cell (p:=⟨w.heap.size,0,none⟩) (by show w.heap.size<W.heap.size; rw[HP.out.2.2.1]; omega)).trans HP.out.2.2.2.1
     go_upto_region 10 with fail
     go_cut [12,13] (fun s12 s13 wx=>s12=.string (str r1.1)∧s13=.int .i64 r1.2∧Below W.heap.size W wx)
     case first=>
      go_region_held3 (fun w'=>w'.cell? ⟨w.heap.size,0,none⟩=some (.slice (some ⟨b,o,none⟩) 3 c)) (go_keep)
       (first | (go_at_call 119; refine (C0.out _).mono ?_; rintro _ w9 ⟨rfl,h9⟩; (have h8:=h9.symm); subst h8) | (go_at_call 117; refine (C2.out _ G3.out.drew).mono ?_; rintro _ w9 ⟨rfl,g9⟩; (have G9:=hid (G3.out.drew.trans (g9.mono G3.out.drew.size))); (have j0:=(G9.out.cell (p:=⟨w.heap.size,0,none⟩) (by show w.heap.size<W.heap.size; rw[HP.out.2.2.1]; omega)).trans HP.out.2.2.2.1); clear g9))
      all_goals (go_wp2_with fail; go_meet)
      all_goals exact⟨rfl,rfl,G9.out⟩
     case rest=>
      obtain⟨rfl,rfl,hB⟩:=hcut;have G4:=hid hB;clear hB G3 d0 C0 C2
      by_cases f1:r1.2=0
      ·have f1':(r1.2==0)=true:=beq_iff_eq.2 f1
       have HG:Hid (F=([],0,11)):=by show _=_; rw[<- HF.out,if_pos (.inl f1)]
       clear f1;go_wp2
       go_ret3
       exact⟨by rw[HG.out]; rfl,HP.out.1.trans (G4.out.mono HP.out.1.size)⟩
      ·have f1':(r1.2==0)=false:=beq_eq_false_iff_ne.2 f1
       have HG:Hid (F=(xors r2.1 r1.1,3,0)):=by show _=_; rw[<- HF.out,if_neg (by rintro (h | h); exact f1 h; exact h F2.out)]
       have l1:=HL.out.2.1 f1;have l2:=HL.out.2.2 F2.out;have CO:=hid (fun wx=>Y3 (str r2.1) (str r1.1) wx (by rw[str_size,l2]; omega) (by rw[str_size,str_size,l1,l2]; exact Nat.le_refl _))
       rw[str_list,str_list,TM _ _ (by rw[l1,l2])] at CO
       clear f1 l1 l2;go_wp2_with fail
       refine (CO.out _).mono ?_
       rintro _ w5 ⟨rfl,g5⟩;go_wp2
       go_ret3
       exact⟨by rw[HG.out]; rfl,HP.out.1.trans ((G4.out.trans (g5.mono G4.out.size)).mono HP.out.1.size)⟩
    ·have f2':(r2.2 != 0)=true:=bne_iff_ne.2 f2
     have HG:Hid (F=([],0,11)):=by show _=_; rw[<- HF.out,if_pos (.inr f2)]
     clear f2;go_wp2
     go_ret3
     exact⟨by rw[HG.out]; rfl,HP.out.1.trans (G3.out.mono HP.out.1.size)⟩
 ·rw[arRead,if_neg ht]
  have HT:=hid hT;have HP:=hid (And.intro hB hW);clear hT hB hz c0 H hW;generalize arTouch A i=t at HT ht;have ht':(t != 0)=true:=bne_iff_ne.2 ht;clear ht;go_enter Tryz.func59,Tryz.ntmps59
  go_wp2_with fail
  refine HT.out.mono ?_
  rintro _ w1 ⟨rfl,g1⟩;rw[<- HP.out.2] at g1;go_wp2
  go_ret3
  exact⟨rfl,HP.out.1.trans (g1.mono HP.out.1.size)⟩
end Go.Proofs.YtdnacpbgodooaaaGreatDoor
namespace Go.Proofs.YtdnacpbgodooaaaGreatDoor
open Go.RowKit Go.Lib
theorem Z5q (w:World) (v:Value) (n:Nat) (A:Ar) (hn:n<=maxLen) (W:World)
  (hW:W=(((w.alloc (.cells #[v] 26)).alloc (.cells #[.slice none 0 0] 26)).alloc (.cells (Array.replicate (n*2) (.slice none 0 0)) 56)).alloc (.cells #[.slice (some ⟨w.heap.size+1+1,0,none⟩) n n] 26)):Fill w (w.heap.size+1) n A (fun _=>nilH) 0 W:=by
 rw[<- List.toArray_replicate] at hW;subst hW;have f0:=JT ((w.alloc (.cells #[v] 26)).alloc (.cells #[.slice none 0 0] 26)) n hn;have e:((w.alloc (.cells #[v] 26)).alloc (.cells #[.slice none 0 0] 26)).heap.size=w.heap.size+1+1:=by simp
 rw[e,<- QZ A n] at f0;exact⟨by simp[go_sem],by simp[go_sem],by simp[go_sem],f0.below ((Below.refl _ _).alloc (Nat.le_refl _) _),by simp,by omega,by go_grown⟩
theorem XI (a:Option Addr) (n c:Nat) (A:Ar) (w:World) (H:Z5 w a n A) (hf:QS n A):
  Calls Tryz.prog 51 #[.agg #[.slice a n c]] w (OutC w n A):=by
 have hbig:=hf.big;have mk:=JS n (by omega)
 have hnb:=H.nb;obtain⟨W,hW⟩:∃ W,W=(((w.alloc (.cells #[.slice a n c] 26)).alloc (.cells #[.slice none 0 0] 26)).alloc (.cells (Array.replicate (n*2) (.slice none 0 0)) 56)).alloc (.cells #[.slice (some ⟨w.heap.size+1+1,0,none⟩) n n] 26):=⟨_,rfl⟩;have HS:=hid (Z5q w (.slice a n c) n A hnb W hW);have ab:W.cell? ⟨w.heap.size,0,none⟩=some (.slice a n c):=by rw[hW]; simp[go_sem]
 unfold maxLen at hnb;have HH:=hid H;have HF:=hid hf;clear H hf;go_enter Tryz.func51,Tryz.ntmps51
 go_upto_region 2 with fail
 rw[<- hW];clear hW mk;go_wp2_with fail
 clear ab;go_loopw [14] (fun i wr=>∃ (k:Nat) (h:Nat->Hd),k<=n∧i=.int .i64 k∧Fill w (w.heap.size+1) n A h k wr) (fun i _=>n-(intOf i).toNat)
 case atStart=>exact⟨0,_,Nat.zero_le _,rfl,HS.out⟩
 case round=>
  obtain⟨k,h,hk,rfl,hI⟩:=hrel;clear HS
  by_cases hlt:k<n
  ·have hlt':(k:Int)<n:=by omega
   rcases HH.out with ⟨h0,_⟩ | ⟨b,o,h2,rfl,HA⟩
   ·omega
   have HA':=HA.below hI.below;have d0:=HA'.c0 k hlt;have d1:=HA'.c1 k hlt;have sp:=(HA'.dv k hlt).sn;have sq:=(HA'.dv k hlt).sm;have sb:=(HA'.dv k hlt).nb;have sb':=(HA'.dv k hlt).mb;have fit:=HF.out.each k hlt;have fs:=HF.out.strs k hlt;have C1:=hid (fun wx (g:Below w.heap.size w wx)=>Z2l (h2 k).x (h2 k).p (h2 k).c (h2 k).y (h2 k).q (h2 k).d (dev A k) wx ((HA.below g).dv k hlt) (by rw[sp]; omega) (by rw[sq]; omega) (fun s hs=>by have:=fs s hs; omega))
   obtain⟨V,hV⟩:∃ V,V=wr.alloc (.cells #[.slice (h2 k).x (h2 k).p (h2 k).c,.slice (h2 k).y (h2 k).q (h2 k).d] 56):=⟨_,rfl⟩;have bV:Below wr.heap.size wr V:=by rw[hV]; exact (Below.refl _ wr).alloc (Nat.le_refl _) _
   have bx:Box2 V wr.heap.size (.slice (h2 k).x (h2 k).p (h2 k).c) (.slice (h2 k).y (h2 k).q (h2 k).d):=by rw[hV]; exact box2_of (Own.made wr 56 [.slice (h2 k).x (h2 k).p (h2 k).c,.slice (h2 k).y (h2 k).q (h2 k).d])
   have HI:=hid (And.intro (hI.to bV) bx);have HQ:=hid (And.intro sp (And.intro sq (And.intro sb (And.intro sb' HH.out.len))));clear hI HA HA' sp sq sb sb' fit fs bV bx;go_wp2_with fail
   rw[<- hV];clear hV d0 d1;have x0:=HI.out.2.c0;have x1:=HI.out.2.c1;have cb:=HI.out.1.cb;go_region_with (go_at_call 105; refine (C1.out _ HI.out.1.below.drew).mono ?_; rintro _ w4 ⟨b1,b2,rfl,_,_,hne,o1,o2,g4⟩; (have I4:=HI.out.1.to (undrew g4)); (have D4:Zc w4 (some ⟨b1,0,none⟩) (h2 k).p (some ⟨b2,0,none⟩) (h2 k).q (dev A k):=⟨HQ.out.1,HQ.out.2.1,o1.row,o2.row,HQ.out.2.2.1,HQ.out.2.2.2.1⟩); (have K4:=hid (I4.step HQ.out.2.2.2.2 hlt ⟨some ⟨b1,0,none⟩,(h2 k).p,(h2 k).p,some ⟨b2,0,none⟩,(h2 k).q,(h2 k).q⟩ D4)); (have z:=(I4.fr.store0 k hlt ⟨some ⟨b1,0,none⟩,(h2 k).p,(h2 k).p,some ⟨b2,0,none⟩,(h2 k).q,(h2 k).q⟩ _ D4).1); (have z0:=z.1); (have z1:=z.2.1); (have z2:=z.2.2.1); (have z3:=z.2.2.2); (have c4:=I4.cb); clear I4 D4 z o1 o2 g4)
   all_goals clear x0 x1 cb z0 z1 z2 z3 c4
   all_goals go_wp2
   all_goals go_roundw
   all_goals (first | (case rel=>exact⟨k+1,_,by omega,by go_num,K4.out⟩) | skip)
   all_goals (simp[intOf]; omega)
  ·obtain rfl:k=n:=by omega
   have hnl:¬ (k:Int)<k:=by omega
   have cb:=hI.cb;have rc:=hI.rc;have rf:=hI.rf;have y0:=World.cell?_setCell_same wr ⟨w.heap.size+1,0,none⟩ (.slice (some ⟨w.heap.size+1+1,0,none⟩) k k) rc
   have fr:=hI.fr.box (p:=w.heap.size+1) (by omega) rc (.slice (some ⟨w.heap.size+1+1,0,none⟩) k k)
   rw[Z1C A k HH.out.len] at fr;have K:=hid (show OutC w k A _ _ from ⟨_,k,rfl,.inr ⟨w.heap.size+1+1,h,rfl,by omega,fr⟩,hI.below.setCell (p:=⟨w.heap.size+1,0,none⟩) (by show w.heap.size<=w.heap.size+1; omega) _⟩)
   clear hI fr;go_wp2
   refine bodyPost_ret (v:=.agg #[.slice (some ⟨w.heap.size+1+1,0,none⟩) k k]) (by simp[results,Tryz.results51,go_sem,y0]) rfl ?_
   exact K.out
end Go.Proofs.YtdnacpbgodooaaaGreatDoor
namespace Go.Proofs.YtdnacpbgodooaaaGreatDoor
open Go.RowKit Go.Lib
theorem Z5J (n:Int) (w:World) (h:¬ (16<=n∧n<=64∧n % 2=0)):
  Calls Tryz.prog 15 #[.int .i64 n] w (OutA w ([],2)):=by
 have HK:=hid (fun w' (g:Below w.heap.size w w')=>Zp (x:=2) g)
 have i1:=fun wx=>WR n wx
 rw[decide_eq_false h] at i1;have HI:=hid i1;clear i1 h;go_enter Tryz.func15,Tryz.ntmps15
 go_wp2_with (go_at_call 39; refine (HI.out _).mono ?_; rintro _ w9 ⟨rfl,h9⟩; (have h8:=h9.symm); subst h8)
 refine bodyPost_ret (v:=.tuple #[.agg #[.slice none 0 0],.int .i64 2]) (by simp[results,Tryz.results15,go_sem]) rfl ?_
 exact HK.out _ (by go_grown)
theorem Z13 (w:World) (A:Ar) (W:World) (hW:W=((w.alloc (.cells #[.slice none 0 0] 26)).alloc (.cells #[.slice none 0 0,.slice none 0 0,.slice none 0 0,.slice none 0 0,.slice none 0 0,.slice none 0 0] 56)).alloc (.cells #[.slice (some ⟨w.heap.size+1,0,none⟩) 3 3] 26)):Fill w w.heap.size 3 A (fun _=>nilH) 0 W:=by
 subst hW;have f0:=JT (w.alloc (.cells #[.slice none 0 0] 26)) 3 (by unfold maxLen; omega)
 have e:(w.alloc (.cells #[.slice none 0 0] 26)).heap.size=w.heap.size+1:=by simp
 rw[e,<- QZ A 3] at f0;change Z4 ((w.alloc (.cells #[.slice none 0 0] 26)).alloc (.cells #[.slice none 0 0,.slice none 0 0,.slice none 0 0,.slice none 0 0,.slice none 0 0,.slice none 0 0] 56)) _ _ _ _ _ at f0
 exact⟨by simp[go_sem],by simp[go_sem],by simp[go_sem],f0.below ((Below.refl _ _).alloc (Nat.le_refl _) _),by simp,Nat.le_refl _,by go_grown⟩
theorem Z78 (M:Nat) (w:World) (h0:16<=M) (h1:M<=64) (h2:M % 2=0):
  Calls Tryz.prog 15 #[.int .i64 M] w (OutA w ([devNew 0 M,devNew 1 M,devNew 2 M],0)):=by
 have i1:=fun wx=>WR M wx
 rw[decide_eq_true (show (16:Int)<=M∧(M:Int)<=64∧(M:Int) % 2=0 by omega)] at i1
 have HI:=hid i1;have mk:∀ wx:World,(Instr.makeSlice 24 (.int .i64 3) (.int .i64 3)).run Tryz.prog wx=.ok (.slice (some ⟨wx.heap.size,0,none⟩) 3 3) (wx.alloc (.cells #[.slice none 0 0,.slice none 0 0,.slice none 0 0,.slice none 0 0,.slice none 0 0,.slice none 0 0] 56)):=fun wx=>JS 3 (by omega) wx
 obtain⟨A,hA⟩:∃ A:Ar,A=[devNew 0 M,devNew 1 M,devNew 2 M]:=⟨_,rfl⟩;have HL:=hid (show 3=A.length by rw[hA]; rfl)
 have CN:=hid (fun (k:Nat) (hk:k<3) (wx:World)=>(show Calls Tryz.prog 40 #[.int .i64 k,.int .i64 M] wx (OutD wx (dev A k)) by
  have:=Vc k M wx h1
  have e:dev A k=devNew k M:=by
   rw[hA]
   match k,hk with
   | 0,_=>rfl
   | 1,_=>rfl
   | 2,_=>rfl
  rw[e]; exact this))
 rw[<- hA];obtain⟨W,hW⟩:∃ W,W=((w.alloc (.cells #[.slice none 0 0] 26)).alloc (.cells #[.slice none 0 0,.slice none 0 0,.slice none 0 0,.slice none 0 0,.slice none 0 0,.slice none 0 0] 56)).alloc (.cells #[.slice (some ⟨w.heap.size+1,0,none⟩) 3 3] 26):=⟨_,rfl⟩;have HS:=hid (Z13 w A W hW);clear i1 hA h0 h2;go_enter Tryz.func15,Tryz.ntmps15
 go_upto_region 4 with (go_at_call 39; refine (HI.out _).mono ?_; rintro _ w9 ⟨rfl,h9⟩; (have h8:=h9.symm); subst h8)
 rw[<- hW];clear hW mk HI;have cb:=HS.out.cb;go_wp2_with fail
 clear cb;go_loopw [15] (fun i wr=>∃ (k:Nat) (h:Nat->Hd),k<=3∧i=.int .i64 k∧Fill w w.heap.size 3 A h k wr) (fun i _=>3-(intOf i).toNat)
 case atStart=>exact⟨0,_,Nat.zero_le _,rfl,HS.out⟩
 case round=>
  obtain⟨k,h,hk,rfl,hI⟩:=hrel;clear HS
  by_cases hlt:k<3
  ·have hlt':(k:Int)<3:=by omega
   have C1:=hid (CN.out k hlt);have HI:=hid hI;have cb:=hI.cb;clear hI CN;go_wp2_with fail
   go_region_with (go_at_call 40; refine (C1.out _).mono ?_; rintro _ w4 ⟨x,n1,e1,y,m1,e2,rfl,hN,hl,g4⟩; (have I4:=HI.out.to (undrew g4)); (have D4:=hN.at hl.1 hl.2.1 hl.2.2.1 hl.2.2.2); (have K4:=hid (I4.step HL.out hlt ⟨x,n1,e1,y,m1,e2⟩ D4)); (have z:=(I4.fr.store0 k hlt ⟨x,n1,e1,y,m1,e2⟩ _ D4).1); (have z0:=z.1); (have z1:=z.2.1); (have z2:=z.2.2.1); (have z3:=z.2.2.2); (have c4:=I4.cb); clear I4 D4 z hN hl g4)
   all_goals clear cb z0 z1 z2 z3 c4
   all_goals go_wp2
   all_goals go_roundw
   all_goals (first | (case rel=>exact⟨k+1,_,by omega,by go_num,K4.out⟩) | skip)
   all_goals (simp[intOf]; omega)
  ·obtain rfl:k=3:=by omega
   have hnl:¬ ((3:Nat):Int)<3:=by omega
   have cb:=hI.cb;have rc:=hI.rc;have rf:=hI.rf;have y0:=World.cell?_setCell_same wr ⟨w.heap.size,0,none⟩ (.slice (some ⟨w.heap.size+1,0,none⟩) 3 3) rc
   have fr:=hI.fr.box (p:=w.heap.size) (by omega) rc (.slice (some ⟨w.heap.size+1,0,none⟩) 3 3)
   rw[Z1C A 3 HL.out] at fr;have K:=hid (show OutA w (A,0) _ _ from ⟨⟨_,3,3,rfl,.inr ⟨w.heap.size+1,h,rfl,by omega,fr⟩⟩,hI.below.setCell (p:=⟨w.heap.size,0,none⟩) (Nat.le_refl _) _⟩)
   clear hI fr;go_wp2
   refine bodyPost_ret (v:=.tuple #[.agg #[.slice (some ⟨w.heap.size+1,0,none⟩) 3 3],.int .i64 0]) (by simp[results,Tryz.results15,go_sem,y0]) rfl ?_
   exact K.out
theorem TR (M:Nat) (h:16<=M∧M<=64∧M % 2=0):arNew M=([devNew 0 M,devNew 1 M,devNew 2 M],0):=by
 rw[arNew,if_pos (by omega)]
 have e:((M / 2:Nat):Int)=(M:Int) / 2:=by omega
 simp[devNew,secOf,e]
theorem Z5K (n:Int) (w:World):Calls Tryz.prog 15 #[.int .i64 n] w (OutA w (arNew n)):=by
 by_cases h:16<=n∧n<=64∧n % 2=0
 ·obtain⟨N,rfl⟩:∃ N:Nat,n=N:=⟨n.toNat,by omega⟩
  rw[TR N (by omega)]
  exact Z78 N w (by omega) (by omega) (by omega)
 ·rw[arNew,if_neg h]
  exact Z5J n w h
end Go.Proofs.YtdnacpbgodooaaaGreatDoor
