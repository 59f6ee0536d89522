import Derived.Test.YtdnacpbgodooaaaGreatDoorStrA
set_option maxHeartbeats 1600000
set_option maxRecDepth 4000
namespace Go.Proofs.YtdnacpbgodooaaaGreatDoor
open Go.RowKit Go.Shelf
def Z7l:Go.Shelf.Ren:=⟨fun | 166=>89 | 240=>145 | 276=>183 | n=>n,fun | 0=>0 | 3=>3 | 4=>4 | 5=>5 | 9=>9 | 20=>20 | 37=>103 | 70=>130 | 72=>132 | 75=>135 | 80=>138 | 164=>207 | n=>n,fun | n=>n⟩
theorem Z5D:Go.Proofs.Lays.n166 Tryz.prog Z7l:={
 mixed:=by kernel_rfl
 f166:=Tryz.func89.trans (congrArg some (by kernel_rfl))
 f240:=Tryz.func145.trans (congrArg some (by kernel_rfl))
 f276:=Tryz.func183.trans (congrArg some (by kernel_rfl))
 t0:=Tryz.underlying0
 a0:=Tryz.isAgg0
 z0:=Tryz.sizeOf0
 v0:=Tryz.zeroValue0
 t3:=Tryz.underlying3
 a3:=Tryz.isAgg3
 z3:=Tryz.sizeOf3
 v3:=Tryz.zeroValue3
 t4:=Tryz.underlying4
 a4:=Tryz.isAgg4
 z4:=Tryz.sizeOf4
 v4:=Tryz.zeroValue4
 t9:=Tryz.underlying9
 a9:=Tryz.isAgg9
 z9:=Tryz.sizeOf9
 v9:=Tryz.zeroValue9
 t20:=Tryz.underlying20
 a20:=Tryz.isAgg20
 z20:=Tryz.sizeOf20
 v20:=Tryz.zeroValue20
 t37:=Tryz.underlying103
 a37:=Tryz.isAgg103
 z37:=Tryz.sizeOf103
 v37:=Tryz.zeroValue103
 t70:=Tryz.underlying130
 a70:=Tryz.isAgg130
 z70:=Tryz.sizeOf130
 v70:=Tryz.zeroValue130
 t72:=Tryz.underlying132
 a72:=Tryz.isAgg132
 z72:=Tryz.sizeOf132
 v72:=Tryz.zeroValue132
 t75:=Tryz.underlying135
 a75:=Tryz.isAgg135
 z75:=Tryz.sizeOf135
 v75:=Tryz.zeroValue135
 t164:=Tryz.underlying207
 a164:=Tryz.isAgg207
 z164:=Tryz.sizeOf207
 v164:=Tryz.zeroValue207 }
theorem Z2v:Builder.Extra Tryz.prog Z7l:={
 sizeBuilder:=by kernel_rfl
 liesBuilder:=by kernel_rfl
 t5:=Tryz.underlying5
 a5:=Tryz.isAgg5
 z5:=Tryz.sizeOf5
 v5:=Tryz.zeroValue5
 infoByte:=by kernel_rfl
 cellsByte:=by kernel_rfl
 sizeByte:=by kernel_rfl
 neB5:=by decide }
def Bld (b:Nat) (l:List UInt8) (w:World):Prop:=Lib.IsBuilder 132 5 b b (Lib.byteCells l) w
theorem Z5C (w:World):Bld w.heap.size [] (w.alloc (.cells #[.pointer none,.slice none 0 0] 132)):=Lib.fresh_isBuilder 132 5 w
theorem Bld.below {b:Nat} {l:List UInt8} {w w':World} (h:Bld b l w) (g:Below w.heap.size w w'):Bld b l w':=by
 have one:∀ p,Lib.BuilderAt 132 5 b b p (Lib.byteCells l) w->Lib.BuilderAt 132 5 b b p (Lib.byteCells l) w':=by
  rintro p h;have hlt:=h.lt;obtain⟨hB,v,hb,ho,hne⟩:=h;refine⟨hB,v,(g.block b hlt).trans hb,ho.kept (row:=none) ⟨g.os,g.tape,g.output,g.size,fun k hk _=>g.block k hk⟩ ?_,hne⟩
  cases v.ownBlock <;> simp
 rcases h with h | h
 ·exact .inl (one _ h)
 ·exact .inr (one _ h)
theorem Bld.lt {b:Nat} {l:List UInt8} {w:World} (h:Bld b l w):b<w.heap.size:=by
 rcases h with h | h <;> exact h.lt
theorem Z3A (b:Nat) (l:List UInt8) (s:ByteArray) (w:World) (h:Bld b l w) (hlen:l.length+s.size<=140737488355328):
  Calls Tryz.prog 89 #[.pointer (some ⟨b,0,none⟩),.string s] w fun e w'=>e=.returned (.tuple #[.int .i64 s.size,.nilIface])∧Bld b (l++s.data.toList) w'∧Below b w w':=by
 refine Calls.mono (Any.Builder_WriteString Z5D Z2v b b (Lib.byteCells l) s w h (by rw[Lib.byteCells_length]; exact hlen) (Nat.le_of_lt h.lt)) ?_
 rintro e w' ⟨rfl,h1,h2⟩;refine⟨rfl,.inr ?_,h2⟩
 rw[Lib.byteCells_append,<- Lib.strCells_eq];exact h1
theorem Z1s (b:Nat) (l:List UInt8) (w:World) (h:Bld b l w):
  Calls Tryz.prog 90 #[.pointer (some ⟨b,0,none⟩)] w fun e w'=>e=.returned (.string (str l))∧Below b w w':=Tryz.Builder_String_any b b l w h (Nat.le_of_lt h.lt)
end Go.Proofs.YtdnacpbgodooaaaGreatDoor
namespace Go.Proofs.YtdnacpbgodooaaaGreatDoor
open Go.RowKit Go.Shelf
def BldK (b:Nat) (l:List UInt8) (w:World):Prop:=Lib.IsBuilderF 132 5 b b (Lib.byteCells l) w
theorem Z76 (w:World):BldK w.heap.size [] (w.alloc (.cells #[.pointer none,.slice none 0 0] 132)):=Lib.IsBuilderF.of (Z5C w)
theorem BldK.lt {b:Nat} {l:List UInt8} {w:World} (h:BldK b l w):b<w.heap.size:=by
 rcases h with ⟨_,v,hb,_⟩ | ⟨_,v,hb,_⟩ <;> exact lt_of_block hb
theorem BldK.keep {b:Nat} {l:List UInt8} {w w':World} (h:BldK b l w) (g:∀ (k:Nat) (cs:Array Value) (t:TypeId) (fz:Nat × Nat),(t=132∨t=5)->w.heap[k]?=some (.cells cs t fz)->w'.heap[k]?=some (.cells cs t fz)):BldK b l w':=by
 have one:∀ p,Lib.BuilderAtF 132 5 b b p (Lib.byteCells l) w->Lib.BuilderAtF 132 5 b b p (Lib.byteCells l) w':=by
  rintro p ⟨hB,v,hb,⟨hl,ho⟩,hne⟩;refine⟨hB,v,g _ _ _ _ (.inl rfl) hb,⟨hl,?_⟩,hne⟩
  rcases ho with h0 | ⟨q,cap,cur,fz,h1,h2,h3,h4⟩
  ·exact .inl h0
  ·exact .inr ⟨q,cap,cur,fz,h1,h2,g _ _ _ _ (.inr rfl) h3,h4⟩
 rcases h with h | h
 ·exact .inl (one _ h)
 ·exact .inr (one _ h)
theorem BldK.below {b:Nat} {l:List UInt8} {w w':World} (h:BldK b l w) (g:Below w.heap.size w w'):BldK b l w':=h.keep fun k _ _ _ _ hk=>by rw[g.block k (lt_of_block hk)]; exact hk
theorem Own.kept {w w':World} {p b:Nat} {t:TypeId} {V:List Value} (h:Own w p t V) (k:Lib.OthersKept 5 (some b) w w') (ht:t≠5) (hp:p≠b):Own w' p t V:=by
 obtain⟨R,h⟩:=h;exact⟨R,k p _ h (fun e=>hp (Option.some.inj e)) (fun c fz e=>by cases e; exact ht rfl)⟩
theorem Z4f {w w':World} {b base size n:Nat} {e:TypeId} {v:Value} {xs:List Value} (h:w.ownsRow base e size v n xs) (k:Lib.OthersKept 5 (some b) w w') (he:e≠5) (hb:b<base):w'.ownsRow base e size v n xs:=by
 refine⟨h.1,?_⟩
 rcases h.2 with h0 | ⟨g,cap,cur,h1,h2,h3,h4⟩
 ·exact .inl h0
 ·exact .inr ⟨g,cap,cur,h1,h2,k g _ h3 (fun q=>by have:=Option.some.inj q; omega) (fun c fz q=>by cases q; exact he rfl),h4⟩
theorem Z1r (b:Nat) (l:List UInt8) (s:ByteArray) (w:World) (h:BldK b l w) (hlen:l.length+s.size<=140737488355328):
  Calls Tryz.prog 89 #[.pointer (some ⟨b,0,none⟩),.string s] w fun e w'=>e=.returned (.tuple #[.int .i64 s.size,.nilIface])∧BldK b (l++s.data.toList) w'∧Below b w w'∧Lib.OthersKept 5 (some b) w w':=by
 refine Calls.mono (Any.Builder_WriteString_k Z5D Z2v b b (Lib.byteCells l) s w h (by rw[Lib.byteCells_length]; exact hlen) (Nat.le_of_lt h.lt)) ?_
 rintro e w' ⟨rfl,h1,h2,h3⟩;refine⟨rfl,.inr ?_,h2,h3⟩
 rw[Lib.byteCells_append,<- Lib.strCells_eq];exact h1
theorem Z5B (b:Nat) (l:List UInt8) (w:World) (h:BldK b l w):
  Calls Tryz.prog 88 #[.pointer (some ⟨b,0,none⟩)] w fun e w'=>e=.returned (.int .i64 l.length)∧w'=w:=by
 have:=Any.Builder_Len_f Tryz.lays170 b b (Lib.byteCells l) w h
 rw[Lib.byteCells_length] at this;exact this
theorem Z0d (b:Nat) (l:List UInt8) (w:World) (h:BldK b l w):
  Calls Tryz.prog 90 #[.pointer (some ⟨b,0,none⟩)] w fun e w'=>e=.returned (.string (str l))∧Below b w w'∧Lib.OthersKept 5 (some b) w w':=
 Calls.mono (Any.Builder_String_any_k Tryz.lays169 Tryz.Builder_Extra_169 b b l w h (Nat.le_of_lt h.lt)) fun _ _ ⟨h1,_,h3,h4⟩=>⟨h1,h3,h4⟩
end Go.Proofs.YtdnacpbgodooaaaGreatDoor
namespace Go.Proofs.YtdnacpbgodooaaaGreatDoor
open Go.RowKit
theorem Z3Y (a:Option Addr) (n c:Nat) (x m:Int) (A:Ar) (w:World) (H:Z5 w a n A) (ht:stChk A x m≠0):
  Calls Tryz.prog 80 #[.agg #[.slice a n c],.int .i64 x,.int .i64 m] w fun e w'=>e=.returned (.tuple #[.string (str []),.int .i64 (stChk A x m)])∧Below w.heap.size w w':=by
 obtain⟨W,hW⟩:∃ W,W=w.alloc (.cells #[.slice a n c] 26):=⟨_,rfl⟩;have hB:Below w.heap.size w W:=by rw[hW]; go_grown
 have HT:=hid (Yt a n c A x m W (H.below hB));generalize stChk A x m=t at HT ht;have ht':(t != 0)=true:=bne_iff_ne.2 ht;rw[hW] at HT;have HP:=hid (And.intro hB hW);clear ht hB H hW;go_enter Tryz.func80,Tryz.ntmps80
 go_wp2_with fail
 refine HT.out.mono ?_
 rintro _ w1 ⟨rfl,g1⟩;rw[<- HP.out.2] at g1;go_wp2
 go_ret2
 exact⟨rfl,bel3 HP.out.1 g1⟩
theorem Z2d (l:List UInt8) (m:Nat):(str l).extract 0 m=str (l.take m):=by rw[ext_str,str_list,cut,List.drop_zero]
theorem Z3X (b o c:Nat) (h:Nat->Hd) (x M:Nat) (A:Ar) (w:World) (H:Arr w b o 3 h A) (ht:stChk A x M=0):
  Calls Tryz.prog 80 #[.agg #[.slice (some ⟨b,o,none⟩) 3 c],.int .i64 x,.int .i64 M] w fun e w'=>e=.returned (.tuple #[.string (str ((rdN A x (secs M)).1.take M)),.int .i64 (rdN A x (secs M)).2])∧Below w.heap.size w w':=by
 obtain⟨hm,hs,hx0,hx1⟩:=Xa A x M ht;rw[U9] at hx1;have hmm:=(arMay_iff A).1 hm;obtain⟨W,hW⟩:∃ W,W=w.alloc (.cells #[.slice (some ⟨b,o,none⟩) 3 c] 26):=⟨_,rfl⟩;have hB:Below w.heap.size w W:=by rw[hW]; go_grown
 have hz:W.heap.size=w.heap.size+1:=by rw[hW]; simp
 have c0:W.cell? ⟨w.heap.size,0,none⟩=some (.slice (some ⟨b,o,none⟩) 3 c):=by rw[hW]; simp
 have HA:∀ wx,Below W.heap.size W wx->Z5 wx (some ⟨b,o,none⟩) 3 A:=fun wx g=>.inr ⟨b,o,h,rfl,(H.below hB).below g⟩
 have HT:=hid (Yt (some ⟨b,o,none⟩) 3 c A x M W (HA W (Below.refl _ _)));rw[ht,hW] at HT;have CR:=hid (fun (i:Int) wx (g:Below W.heap.size W wx)=>Xo (some ⟨b,o,none⟩) 3 c i A wx (HA wx g))
 have CS:=hid (fun wx=>Wn M wx (by omega))
 have HP:=hid (And.intro hB (And.intro hz c0));have HE:=hid hW;have hM:M<=1536:=by omega
 have hS:=WM M hM;have HM:=hid (Q3 M);have hx64:x<=64:=by omega
 clear hB hz c0 H hW HA hm hmm ht hs hx0 hx1;generalize secs M=K at hS HM CS;go_enter Tryz.func80,Tryz.ntmps80
 go_wp2_with fail
 refine HT.out.mono ?_
 rintro _ w1 ⟨rfl,g1⟩;rw[<- HE.out] at g1;have G1:=hid g1;clear g1 HT HE;go_upto_region 5 with fail
 obtain⟨W1,hW1⟩:∃ W1,W1=w1.alloc (.cells #[.pointer none,.slice none 0 0] 132):=⟨_,rfl⟩;have b1:Below w1.heap.size w1 W1:=by rw[hW1]; exact (Below.refl _ w1).alloc (Nat.le_refl _) _
 have n1:Bld w1.heap.size [] W1:=by rw[hW1]; exact Z5C w1
 rw[<- hW1];have S1:=hid (And.intro n1 (And.intro (bel3 G1.out b1) G1.out.size));clear hW1 b1 n1 G1;generalize w1.heap.size=pb at S1 ⊢;go_wp2_with (go_at_call 96; refine (CS.out _).mono ?_; rintro _ w9 ⟨rfl,h9⟩; (have h8:=h9.symm); subst h8)
 go_loopw [23] (fun i wr=>∃ k:Nat,k<=K∧i=.int .i64 k∧Hid (((rdN A x k).2=0∧Bld pb (rdN A x k).1 wr)∧Below W.heap.size W wr)) (fun i _=>K-(intOf i).toNat)
 case atStart=>exact⟨0,Nat.zero_le _,rfl,⟨rfl,S1.out.1⟩,S1.out.2.1⟩
 case round=>
  obtain⟨k,hk,rfl,HI⟩:=hrel;have HB:=hid S1.out.2.2;clear S1;obtain⟨⟨r0,i0⟩,g0⟩:=HI.out;have HL:=hid (rd_len A x k r0)
  by_cases hlt:k<K
  ·have hlt':(k:Int)<K:=by omega
   have d0:=(g0.cell (p:=⟨w.heap.size,0,none⟩) (by show w.heap.size<W.heap.size; rw[HP.out.2.1]; omega)).trans HP.out.2.2
   have C2:=hid (CR.out ((x+k:Nat):Int) wr g0);have R1:=hid (Z0U A x k r0);have R2:=hid (Z0V A x k r0);have R3:=hid (VN A (x+k));have I0:=hid (And.intro i0 g0);clear i0 g0 HI r0;generalize arRead A ((x+k:Nat):Int)=R at C2 R1 R2 R3;rw[show ((x+k:Nat):Int)=(x:Int)+k by omega] at C2
   by_cases e:R.2.2=0
   ·have e':(R.2.2 != 0)=false:=bne_eq_false_iff_eq.2 e
    have r1:=R1.out e;have r3:=R3.out e;have RN:=hid (And.intro r1 r3);clear R1 R2 R3 r1 r3 e;go_wp2_with fail
    refine C2.out.mono ?_
    rintro _ w3 ⟨rfl,g3⟩;have I3:=hid (And.intro (I0.out.1.below g3) (bel3 I0.out.2 g3));clear g3 C2 I0 d0;go_wp2_with fail
    refine (Z3A pb _ (str R.1) w3 I3.out.1 (by rw[HL.out,str_size,RN.out.2]; omega)).mono ?_
    rintro _ w4 ⟨rfl,h4,g4⟩;rw[str_list] at h4;have I4:=hid (And.intro (show (rdN A x (k+1)).2=0∧Bld pb (rdN A x (k+1)).1 w4 by rw[RN.out.1]; exact⟨rfl,h4⟩) (I3.out.2.trans (g4.mono HB.out)))
    clear h4 g4 I3;go_wp2
    go_roundw
    case rel=>exact⟨k+1,hlt,by go_num,I4.out⟩
    case measure=>simp[intOf]; omega
   ·have e':(R.2.2 != 0)=true:=bne_iff_ne.2 e
    have r2:=R2.out e K hlt;have RN:=hid r2;clear R1 R2 R3 r2 e;go_wp2_with fail
    refine C2.out.mono ?_
    rintro _ w3 ⟨rfl,g3⟩;have G3:=hid (bel3 I0.out.2 g3);clear g3 C2 I0 d0;go_wp2
    go_ret2
    refine⟨?_,bel3 HP.out.1 G3.out⟩
    rw[RN.out];show _=Ending.returned (.tuple #[.string (str (([]:List UInt8).take M)),.int .i64 R.2.2])
    rw[List.take_nil]
    rfl
  ·have hlt':¬ (k:Int)<K:=by omega
   obtain rfl:k=K:=by omega
   have CT:=hid (Z1s pb _ wr i0);have I0:=hid (And.intro r0 g0);clear i0 g0 HI hlt hk r0;obtain⟨R,hR⟩:∃ R,rdN A x k=R:=⟨_,rfl⟩;rw[hR] at CT HL I0;have HR:=hid hR;clear hR;obtain⟨L,E⟩:=R;have hl:L.length=24*k:=HL.out;have sz:(str L).size=24*k:=by rw[str_size,hl]
   have hMk:=HM.out;have ET:=hid (Z2d L M);have I1:=hid (And.intro (show E=0 from I0.out.1) I0.out.2);change Hid (Calls Tryz.prog _ _ wr fun e w'=>e=.returned (.string (str L))∧Below pb wr w') at CT
   clear I0 hl HL;generalize str L=Z at CT sz ET;go_wp2_with fail
   refine CT.out.mono ?_
   rintro _ w5 ⟨rfl,g5⟩;have G5:=hid (I1.out.2.trans (g5.mono HB.out));clear g5;go_wp2
   go_ret2
   refine⟨?_,bel3 HP.out.1 G5.out⟩
   rw[HR.out,I1.out.1];show _=Ending.returned (.tuple #[.string (str (L.take M)),.int .i64 0])
   rw[<- ET.out]
   rfl
theorem Tw (a:Option Addr) (n c:Nat) (x m:Int) (A:Ar) (w:World) (H:Z5 w a n A):
  Calls Tryz.prog 80 #[.agg #[.slice a n c],.int .i64 x,.int .i64 m] w fun e w'=>e=.returned (.tuple #[.string (str (Zn A x m).1),.int .i64 (Zn A x m).2])∧Below w.heap.size w w':=by
 unfold Zn
 by_cases h:stChk A x m=0
 ·rw[if_pos h]
  obtain⟨hm,h1,h0,_⟩:=Xa A x m h;obtain⟨x',rfl⟩:∃ x':Nat,x=x':=⟨x.toNat,by omega⟩
  obtain⟨m',rfl⟩:∃ m':Nat,m=m':=⟨m.toNat,by omega⟩
  obtain⟨rfl,b,o,hd,rfl,HX⟩:=Z8 H hm;exact Z3X b o c hd x' m' A w HX h
 ·rw[if_neg h]
  exact Z3Y a n c x m A w H h
end Go.Proofs.YtdnacpbgodooaaaGreatDoor
namespace Go.Proofs.YtdnacpbgodooaaaGreatDoor
open Go.RowKit
theorem Z0x (a:Option Addr) (n c:Nat) (x m:Int) (A:Ar) (w:World) (H:Z5 w a n A) (ht:stChk A x m≠0):
  Calls Tryz.prog 71 #[.agg #[.slice a n c],.int .i64 x,.int .i64 m] w fun e w'=>e=.returned (.tuple #[.string (str []),.int .i64 (stChk A x m)])∧Below w.heap.size w w':=by
 obtain⟨W,hW⟩:∃ W,W=w.alloc (.cells #[.slice a n c] 26):=⟨_,rfl⟩;have hB:Below w.heap.size w W:=by rw[hW]; go_grown
 have HT:=hid (Ys a n c A x m W (H.below hB));generalize stChk A x m=t at HT ht;have ht':(t != 0)=true:=bne_iff_ne.2 ht;rw[hW] at HT;have HP:=hid (And.intro hB hW);clear ht hB H hW;go_enter Tryz.func71,Tryz.ntmps71
 go_wp2_with fail
 refine HT.out.mono ?_
 rintro _ w1 ⟨rfl,g1⟩;rw[<- HP.out.2] at g1;go_wp2
 go_ret2
 exact⟨rfl,bel3 HP.out.1 g1⟩
theorem Z0w (b o c:Nat) (h:Nat->Hd) (x M:Nat) (A:Ar) (w:World) (H:Arr w b o 3 h A) (ht:stChk A x M=0):
  Calls Tryz.prog 71 #[.agg #[.slice (some ⟨b,o,none⟩) 3 c],.int .i64 x,.int .i64 M] w fun e w'=>e=.returned (.tuple #[.string (str ((rdN A x (secs M)).1.take M)),.int .i64 (rdN A x (secs M)).2])∧Below w.heap.size w w':=by
 obtain⟨hm,hs,hx0,hx1⟩:=Xa A x M ht;rw[U9] at hx1;have hmm:=(arMay_iff A).1 hm;obtain⟨W,hW⟩:∃ W,W=w.alloc (.cells #[.slice (some ⟨b,o,none⟩) 3 c] 26):=⟨_,rfl⟩;have hB:Below w.heap.size w W:=by rw[hW]; go_grown
 have hz:W.heap.size=w.heap.size+1:=by rw[hW]; simp
 have c0:W.cell? ⟨w.heap.size,0,none⟩=some (.slice (some ⟨b,o,none⟩) 3 c):=by rw[hW]; simp
 have HA:∀ wx,Below W.heap.size W wx->Z5 wx (some ⟨b,o,none⟩) 3 A:=fun wx g=>.inr ⟨b,o,h,rfl,(H.below hB).below g⟩
 have HT:=hid (Ys (some ⟨b,o,none⟩) 3 c A x M W (HA W (Below.refl _ _)));rw[ht,hW] at HT;have CR:=hid (fun (i:Int) wx (g:Below W.heap.size W wx)=>ZH (some ⟨b,o,none⟩) 3 c i A wx (HA wx g))
 have CS:=hid (fun wx=>ZI M wx (by omega))
 have HP:=hid (And.intro hB (And.intro hz c0));have HE:=hid hW;have hM:M<=1536:=by omega
 have hS:=WM M hM;have HM:=hid (Q3 M);have hx64:x<=64:=by omega
 clear hB hz c0 H hW HA hm hmm ht hs hx0 hx1;generalize secs M=K at hS HM CS;go_enter Tryz.func71,Tryz.ntmps71
 go_wp2_with fail
 refine HT.out.mono ?_
 rintro _ w1 ⟨rfl,g1⟩;rw[<- HE.out] at g1;have G1:=hid g1;clear g1 HT HE;go_wp2_with fail
 go_loopw [9,10] (fun v i wr=>∃ (k:Nat) (t:ByteArray),k<=K∧v=.string t∧i=.int .i64 k∧Hid (((rdN A x k).2=0∧t=str (rdN A x k).1)∧Below W.heap.size W wr)) (fun _ i _=>K-(intOf i).toNat)
 case atStart=>exact⟨0,_,Nat.zero_le _,rfl,rfl,⟨rfl,rfl⟩,G1.out⟩
 case round=>
  obtain⟨k,t,hk,rfl,rfl,HI⟩:=hrel;clear G1;obtain⟨⟨r0,i0⟩,g0⟩:=HI.out;have hl:=rd_len A x k r0;have ts:t.size=24*k:=by rw[i0,str_size,hl]
  have I0:=hid (And.intro i0 g0);clear i0 HI hl
  by_cases hlt:k<K
  ·have hlt':(k:Int)<K:=by omega
   have d0:=(g0.cell (p:=⟨w.heap.size,0,none⟩) (by show w.heap.size<W.heap.size; rw[HP.out.2.1]; omega)).trans HP.out.2.2
   have C2:=hid (CR.out ((x+k:Nat):Int) wr g0);have R1:=hid (Z0U A x k r0);have R2:=hid (Z0V A x k r0);have R3:=hid (VN A (x+k));clear g0 r0;generalize arRead A ((x+k:Nat):Int)=R at C2 R1 R2 R3;rw[show ((x+k:Nat):Int)=(x:Int)+k by omega] at C2
   by_cases e:R.2.2=0
   ·have e':(R.2.2 != 0)=false:=bne_eq_false_iff_eq.2 e
    have RN:=hid (R1.out e);have r3:(str R.1).size=24:=by rw[str_size,R3.out e]
    obtain⟨P,hP⟩:∃ P,str R.1=P:=⟨_,rfl⟩;rw[hP] at C2 r3;have HPP:=hid hP;clear R1 R2 R3 e hP;go_wp2_with (go_at_call 66; refine (CS.out _).mono ?_; rintro _ w9 ⟨rfl,h9⟩; (have h8:=h9.symm); subst h8)
    refine C2.out.mono ?_
    rintro _ w3 ⟨rfl,g3⟩;have I3:=hid (And.intro (show (rdN A x (k+1)).2=0∧t++P=str (rdN A x (k+1)).1 by rw[RN.out]; exact⟨rfl,by rw[I0.out.1,<- HPP.out,str_app]⟩) (bel3 I0.out.2 g3))
    clear g3 C2 I0 d0;go_wp2
    go_roundw
    case rel=>exact⟨k+1,_,hlt,rfl,by go_num,I3.out⟩
    case measure=>simp[intOf]; omega
   ·have e':(R.2.2 != 0)=true:=bne_iff_ne.2 e
    have RN:=hid (R2.out e K hlt);clear R1 R2 R3 e;go_wp2_with (go_at_call 66; refine (CS.out _).mono ?_; rintro _ w9 ⟨rfl,h9⟩; (have h8:=h9.symm); subst h8)
    refine C2.out.mono ?_
    rintro _ w3 ⟨rfl,g3⟩;have G3:=hid (bel3 I0.out.2 g3);clear g3 C2 I0 d0;go_wp2
    go_ret2
    refine⟨?_,bel3 HP.out.1 G3.out⟩
    rw[RN.out];show _=Ending.returned (.tuple #[.string (str (([]:List UInt8).take M)),.int .i64 R.2.2])
    rw[List.take_nil]
    rfl
  ·have hlt':¬ (k:Int)<K:=by omega
   obtain rfl:k=K:=by omega
   have hMk:=HM.out;have ET:Hid (t.extract 0 M=str ((rdN A x k).1.take M)∧(rdN A x k).2=0):=⟨by rw[I0.out.1,Z2d],r0⟩
   have G5:=hid g0;clear g0 I0 hlt hk r0;go_wp2_with (go_at_call 66; refine (CS.out _).mono ?_; rintro _ w9 ⟨rfl,h9⟩; (have h8:=h9.symm); subst h8)
   go_ret2
   refine⟨?_,bel3 HP.out.1 G5.out⟩
   rw[<- ET.out.1,ET.out.2]
   rfl
theorem VU (a:Option Addr) (n c:Nat) (x m:Int) (A:Ar) (w:World) (H:Z5 w a n A):
  Calls Tryz.prog 71 #[.agg #[.slice a n c],.int .i64 x,.int .i64 m] w fun e w'=>e=.returned (.tuple #[.string (str (Zn A x m).1),.int .i64 (Zn A x m).2])∧Below w.heap.size w w':=by
 unfold Zn
 by_cases h:stChk A x m=0
 ·rw[if_pos h]
  obtain⟨hm,h1,h0,_⟩:=Xa A x m h;obtain⟨x',rfl⟩:∃ x':Nat,x=x':=⟨x.toNat,by omega⟩
  obtain⟨m',rfl⟩:∃ m':Nat,m=m':=⟨m.toNat,by omega⟩
  obtain⟨rfl,b,o,hd,rfl,HX⟩:=Z8 H hm;exact Z0w b o c hd x' m' A w HX h
 ·rw[if_neg h]
  exact Z0x a n c x m A w H h
end Go.Proofs.YtdnacpbgodooaaaGreatDoor
