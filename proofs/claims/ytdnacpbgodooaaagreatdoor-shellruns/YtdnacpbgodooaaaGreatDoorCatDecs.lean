import Derived.Test.YtdnacpbgodooaaaGreatDoorCatMid
import Derived.Test.YtdnacpbgodooaaaGreatDoorCatChk
set_option maxHeartbeats 1600000
set_option maxRecDepth 4000
namespace Go.Proofs.YtdnacpbgodooaaaGreatDoor
open Go.RowKit Go.Lib
def Z5U (w:World) (r:Ct × Int) (e:Ending) (w':World):Prop:=∃ a n c a' m c',e=.returned (.tuple #[.agg #[.slice a n c,.slice a' m c'],.int .i64 r.2])∧ZW w' a n c a' m r.1∧Below w.heap.size w w'
theorem Z2D (l:List UInt8):(Lib.trimLeftB l 0).isEmpty=zeros l:=by
 unfold Lib.trimLeftB zeros
 induction l with
 | nil=>rfl
 | cons c l ih=>
  by_cases h:c=0
  ·subst h
   rw[List.dropWhile_cons_of_pos (by simp),ih]
   simp
  ·rw[List.dropWhile_cons_of_neg (by simpa using h)]
   simp[h]
structure DecI (w0:World) (r:Rd) (v1 v2:Value) (w:World):Prop where
 rd:Rdr w (w0.heap.size+1) r
 res:Own w w0.heap.size 83 [.slice none 0 0,.slice none 0 0]
 box:Own w (w0.heap.size+1+1) 83 [v1,v2]
 below:Below w0.heap.size w0 w
section
variable {w0 w w':World} {r r':Rd} {v1 v2:Value}
theorem DecI.read (h:DecI w0 r v1 v2 w) (hr:Rdr w' (w0.heap.size+1) r') (hc:Chg (fun k=>k=w0.heap.size+1) w w'):DecI w0 r' v1 v2 w':=
 ⟨hr,hc.own h.res (by omega),hc.own h.box (by omega),h.below.trans (hc.below (Nat.le_of_lt h.res.lt) (fun k hk=>by omega))⟩
theorem DecI.to (h:DecI w0 r v1 v2 w) (g:Below w.heap.size w w'):DecI w0 r v1 v2 w':=h.read (Own.below' h.rd g) (chg_below _ g)
theorem DecI.set0 (h:DecI w0 r v1 v2 w) (v:Value):DecI w0 r v v2 (w.setCell ⟨w0.heap.size+1+1,0,none⟩ v):=
 ⟨h.rd.other (by show w0.heap.size+1≠w0.heap.size+1+1; omega) v,h.res.other (by show w0.heap.size≠w0.heap.size+1+1; omega) v,h.box.set (i:=0) (by simp) v,h.below.setCell (by show w0.heap.size<=w0.heap.size+1+1; omega) v⟩
theorem DecI.set1 (h:DecI w0 r v1 v2 w) (v:Value):DecI w0 r v1 v (w.setCell ⟨w0.heap.size+1+1,1,none⟩ v):=
 ⟨h.rd.other (by show w0.heap.size+1≠w0.heap.size+1+1; omega) v,h.res.other (by show w0.heap.size≠w0.heap.size+1+1; omega) v,h.box.set (i:=1) (by simp) v,h.below.setCell (by show w0.heap.size<=w0.heap.size+1+1; omega) v⟩
theorem Below.res2 {B:Nat} (g:Below B w w') {p:Nat} (hp:B<=p) (v0 v1:Value):Below B w ((w'.setCell ⟨p,0,none⟩ v0).setCell ⟨p,1,none⟩ v1):=(g.setCell (by exact hp) _).setCell (by exact hp) _
end
theorem Ua {w:World} {base base':Nat} {ao ao':Option Addr} {m cap m' cap':Nat} {L:List Bk} {E:List En} (h:W0 w base (.slice ao m cap) L) (h':Xv w base' (.slice ao' m' cap') E) (hb:L.length<=maxLen∧E.length<=maxLen∧∀ i,i<E.length->(en E i).s.size<=maxLen):ZW w ao m cap ao' m' (L,E):=by
 obtain⟨_,e2,e3⟩:=Ub h hb.1;obtain⟨_,_,e6⟩:=YB h' hb.2.1 hb.2.2;exact⟨e2,e3,e6⟩
theorem Z3Z (l:List UInt8):(str (Lib.trimLeftB l 0)).toList.isEmpty=zeros l:=by rw[ByteArray.toList_eq,str_list,Z2D]
theorem Z72 (s:ByteArray) (w:World):
  Calls Tryz.prog 81 #[.string s] w fun e w'=>Z5U w (decC s.data.toList) e w':=by
 obtain⟨W1,hW1⟩:∃ W1,W1=w.alloc (.cells #[.slice none 0 0,.slice none 0 0] 83):=⟨_,rfl⟩;obtain⟨W2,hW2⟩:∃ W2,W2=W1.alloc (.cells #[.string s,.bool false] 170):=⟨_,rfl⟩;obtain⟨W,hW⟩:∃ W,W=W2.alloc (.cells #[.slice none 0 0,.slice none 0 0] 83):=⟨_,rfl⟩;have z1:W1.heap.size=w.heap.size+1:=by rw[hW1]; simp
 have z2:W2.heap.size=w.heap.size+1+1:=by rw[hW2]; simp[z1]
 have z3:W.heap.size=w.heap.size+1+1+1:=by rw[hW]; simp[z2]
 have I0:DecI w (s.data.toList,false) (.slice none 0 0) (.slice none 0 0) W:=by
  have k1:=Own.made w 83 [.slice none 0 0,.slice none 0 0];have k2:=Own.made W1 170 [.string s,.bool false];have k3:=Own.made W2 83 [.slice none 0 0,.slice none 0 0];rw[z1] at k2;rw[z2] at k3;refine⟨?_,?_,?_,?_⟩
  ·show Own W (w.heap.size+1) _ [.string (str s.data.toList),.bool false]
   rw[V7,hW]
   have:Own W2 (w.heap.size+1) 170 [.string s,.bool false]:=by rw[hW2]; exact k2
   exact this.alloc _
  ·rw[hW,hW2,hW1]; exact (k1.alloc _).alloc _
  ·rw[hW]; exact k3
  ·rw[hW,hW2,hW1]; go_grown
 have C1:=Z5A (w.heap.size+1) (s.data.toList,false) W I0.rd;have HI0:=hid (And.intro I0 (And.intro z3 (And.intro hW (And.intro hW2 hW1))));rw[hW,hW2,hW1] at C1;have HC1:=hid C1;clear C1 I0 hW hW2 hW1 z1 z2 z3;go_enter Tryz.func81,Tryz.ntmps81
 go_wp2_with fail
 refine HC1.out.mono ?_
 rintro _ w1 ⟨ao,m,cap,rfl,J1⟩;rw[<- HI0.out.2.2.2.2,<- HI0.out.2.2.2.1,<- HI0.out.2.2.1] at J1;have I1:=HI0.out.1.read J1.rd J1.ch;have z1:=J1.ch.size;have K1:W0 (w1.setCell ⟨w.heap.size+1+1,0,none⟩ (.slice ao m cap)) (w.heap.size+1+1+1) (.slice ao m cap) (c1 (s.data.toList,false)).1:=by
  have:=J1.own
  rw[HI0.out.2.1] at this;exact (Zo w1 (w.heap.size+1+1) 0 (.slice ao m cap)).row this (fun g hg=>by omega)
 have H1:=hid (And.intro (I1.set0 (.slice ao m cap)) K1);have b0:=I1.box.cell (i:=0) rfl;have b1:=I1.box.free 0;have zz:w.heap.size+1+1+1<=(w1.setCell ⟨w.heap.size+1+1,0,none⟩ (.slice ao m cap)).heap.size:=by
  rw[HI0.out.2.1] at z1
  simpa[World.setCell] using z1
 have C2:=hid (Z3q (w.heap.size+1) (c1 (s.data.toList,false)).2 _ H1.out.1.rd);have ZZ:=hid zz;clear HC1 J1 I1 K1 z1 zz HI0;go_wp2_with fail
 refine C2.out.mono ?_
 rintro _ w2 ⟨ao2,m2,cap2,rfl,J2⟩;have I2:=H1.out.1.read J2.rd J2.ch;have K2:=(Zo w2 (w.heap.size+1+1) 1 (.slice ao2 m2 cap2)).row (J2.ch.row H1.out.2 (fun g hg=>by omega)) (fun g hg=>by omega)
 have E2:=(Zo w2 (w.heap.size+1+1) 1 (.slice ao2 m2 cap2)).row J2.own (fun g hg=>by have:=ZZ.out; omega)
 clear b0 b1;have b0:=I2.box.cell (i:=1) rfl;have b1:=I2.box.free 1;have I3:=I2.set1 (.slice ao2 m2 cap2);have ER:(rcat s.data.toList)=(((c1 (s.data.toList,false)).1,(rent (rnum 1 (c1 (s.data.toList,false)).2).1.toNat (rnum 1 (c1 (s.data.toList,false)).2).2).1),(rent (rnum 1 (c1 (s.data.toList,false)).2).1.toNat (rnum 1 (c1 (s.data.toList,false)).2).2).2):=rfl;have hb:=XD (c1 (s.data.toList,false)).2;have hbk:(c1 (s.data.toList,false)).1.length<=255:=by rw[c1,Qg]; have:=XD (s.data.toList,false); omega
 have hnm:=Z4g (rnum 1 (c1 (s.data.toList,false)).2).2 (rnum 1 (c1 (s.data.toList,false)).2).1.toNat;have hln:=Qc (rnum 1 (c1 (s.data.toList,false)).2).2 (rnum 1 (c1 (s.data.toList,false)).2).1.toNat;generalize (c1 (s.data.toList,false)).1=L at K2 ER hbk;generalize rent (rnum 1 (c1 (s.data.toList,false)).2).1.toNat (rnum 1 (c1 (s.data.toList,false)).2).2=X at I3 E2 ER hnm hln;obtain⟨E,r⟩:=X;dsimp only at I3 E2 ER hnm hln;have bd:L.length<=maxLen∧E.length<=maxLen∧∀ i,i<E.length->(en E i).s.size<=maxLen:=⟨by unfold maxLen; omega,by rw[hln]; unfold maxLen; omega,fun i hi=>Nat.le_trans (hnm i (by omega)) (by unfold maxLen; omega)⟩
 have CT:=Ua K2 E2 bd;have HH:=hid (And.intro I3 (And.intro CT (And.intro K2 (And.intro E2 (And.intro bd ZZ.out)))));clear C2 J2 I2 K2 E2 H1 hb hbk hnm hln ZZ bd;obtain⟨l,sh⟩:=r;cases sh with
 | true=>
  have F:=hid (UX s.data.toList (by rw[ER]))
  have c0:=I3.rd.cell (i:=1) rfl;have r0:=box2_of I3.res;obtain⟨y0,y1⟩:=Z6 (.slice none 0 0) (.slice none 0 0) r0.c0 r0.c1;obtain⟨q0,q1,q2,q3,_⟩:=r0;clear I3 CT ER;go_wp2
  refine bodyPost_ret (v:=.tuple #[.agg #[.slice none 0 0,.slice none 0 0],.int .i64 5]) (by simp[results,Tryz.results81,go_sem,y0,y1]) rfl ?_
  refine⟨none,0,0,none,0,0,by rw[F.out],?_,Below.res2 HH.out.1.below (Nat.le_refl _) _ _⟩
  rw[F.out]; exact ZT _ _ _ _
 | false=>
  have c0:=I3.rd.cell (i:=0) rfl;have c1':=I3.rd.cell (i:=1) rfl;have r0:=box2_of I3.res;have x0:=I3.box.cell (i:=0) rfl;have x1:=I3.box.cell (i:=1) rfl;have TL:Hid (∀ wx,Calls Tryz.prog 141 #[.string (str l),.string ⟨#[0]⟩] wx fun e w'=>e=.returned (.string (str (Lib.trimLeftB l 0)))∧w'=wx):=fun wx=>by
   have:=Tryz.strings_TrimLeft_one (str l) 0 (by decide) wx
   rw[str_list] at this;exact this
  have TE:=Z3Z l;generalize str (Lib.trimLeftB l 0)=TT at TL TE;cases hz:zeros l with
  | false=>
   have F:=hid (Z2k s.data.toList (by rw[ER]) (by rw[ER]; exact hz))
   rw[hz] at TE;obtain⟨y0,y1⟩:=Z6 (.slice none 0 0) (.slice none 0 0) r0.c0 r0.c1;obtain⟨q0,q1,q2,q3,_⟩:=r0;clear I3 CT ER hz;go_wp2_with (go_at_call 141; refine (TL.out _).mono ?_; rintro _ w9 ⟨rfl,h9⟩; (have h8:=h9.symm); subst h8)
   refine bodyPost_ret (v:=.tuple #[.agg #[.slice none 0 0,.slice none 0 0],.int .i64 4]) (by simp[results,Tryz.results81,go_sem,y0,y1]) rfl ?_
   refine⟨none,0,0,none,0,0,by rw[F.out],?_,Below.res2 HH.out.1.below (Nat.le_refl _) _ _⟩
   rw[F.out]; exact ZT _ _ _ _
  | true=>
   rw[hz] at TE;have CC:=Ww ao m cap ao2 m2 cap2 (L,E) _ CT
   by_cases ck:catChk (L,E)=0
   ·have F:=hid (Z5m s.data.toList (by rw[ER]) (by rw[ER]; exact hz) (by rw[ER]; exact ck))
    rw[ER] at F;rw[ck] at CC;have HC:=hid CC;clear I3 CT ER hz CC ck r0;go_wp2_with (go_at_call 141; refine (TL.out _).mono ?_; rintro _ w9 ⟨rfl,h9⟩; (have h8:=h9.symm); subst h8)
    refine HC.out.mono ?_
    rintro _ w3 ⟨rfl,g3⟩;have I4:=hid (HH.out.1.to g3);have K4:=hid (And.intro ((chg_below (fun _=>False) g3).row HH.out.2.2.1 (fun _ _ h=>h)) ((chg_below (fun _=>False) g3).row HH.out.2.2.2.1 (fun _ _ h=>h)))
    clear c0 c1' x0 x1;have x0:=I4.out.box.cell (i:=0) rfl;have x1:=I4.out.box.cell (i:=1) rfl;have r0:=box2_of I4.out.res;obtain⟨y0,y1⟩:=Z6 (.slice ao m cap) (.slice ao2 m2 cap2) r0.c0 r0.c1;obtain⟨q0,q1,q2,q3,_⟩:=r0;clear g3 HC;go_wp2
    refine bodyPost_ret (v:=.tuple #[.agg #[.slice ao m cap,.slice ao2 m2 cap2],.int .i64 0]) (by simp[results,Tryz.results81,go_sem,y0,y1]) rfl ?_
    refine⟨ao,m,cap,ao2,m2,cap2,by rw[F.out],?_,Below.res2 I4.out.below (Nat.le_refl _) _ _⟩
    rw[F.out];have z0:=Zo w3 w.heap.size 0 (.slice ao m cap);have z1:=Zo (w3.setCell ⟨w.heap.size,0,none⟩ (.slice ao m cap)) w.heap.size 1 (.slice ao2 m2 cap2);exact Ua (z1.row (z0.row K4.out.1 (fun g hg=>by omega)) (fun g hg=>by omega)) (z1.row (z0.row K4.out.2 (fun g hg=>by have:=HH.out.2.2.2.2.2; omega)) (fun g hg=>by have:=HH.out.2.2.2.2.2; omega)) HH.out.2.2.2.2.1
   ·have F:=hid (Z5n s.data.toList (by rw[ER]) (by rw[ER]; exact hz) (by rw[ER]; exact ck))
    rw[ER] at F;dsimp only at F;generalize catChk (L,E)=T at CC ck F;have ck':(T != 0)=true:=by rw[bne_iff_ne]; exact ck
    have HC:=hid CC;clear I3 CT ER hz CC ck r0;go_wp2_with (go_at_call 141; refine (TL.out _).mono ?_; rintro _ w9 ⟨rfl,h9⟩; (have h8:=h9.symm); subst h8)
    refine HC.out.mono ?_
    rintro _ w3 ⟨rfl,g3⟩;have I4:=hid (HH.out.1.to g3);have r0:=box2_of I4.out.res;obtain⟨y0,y1⟩:=Z6 (.slice none 0 0) (.slice none 0 0) r0.c0 r0.c1;obtain⟨q0,q1,q2,q3,_⟩:=r0;clear g3 HC c0 c1' x0 x1;go_wp2
    refine bodyPost_ret (v:=.tuple #[.agg #[.slice none 0 0,.slice none 0 0],.int .i64 T]) (by simp[results,Tryz.results81,go_sem,y0,y1]) rfl ?_
    refine⟨none,0,0,none,0,0,by rw[F.out],?_,Below.res2 I4.out.below (Nat.le_refl _) _ _⟩
    rw[F.out]; exact ZT _ _ _ _
end Go.Proofs.YtdnacpbgodooaaaGreatDoor
namespace Go.Proofs.YtdnacpbgodooaaaGreatDoor
open Go.RowKit Go.Lib
def intO (o:Option Nat):Int:=match o with
 | some i=>i
 | none => -1
theorem Z4S (a:Option Addr) (n c:Nat) (E:List En) (g:Nat) (lb:Array Value) (s:ByteArray) (w:World) (H:YT w a n E) (eg:∀ args w,(callFunc g args).run Tryz.prog w=.ok (.enter g args) w)
  (hc:∀ (x:En) wx,Below w.heap.size w wx->Calls Tryz.prog g (#[.agg #[.string x.s,.int .i64 x.b,.int .i64 x.a,.int .i64 x.n]]++lb) wx fun e w'=>e=.returned (.bool (x.s.toList==s.toList))∧Below wx.heap.size wx w'):
  Calls Tryz.prog 101 #[.slice a n c,.func (.func g) #[] lb] w fun e w'=>e=.returned (.int .i64 (intO (XC E s n)))∧Below w.heap.size w w':=by
 have hnb:=H.nb;unfold maxLen at hnb;have CT:=hid hc;have HH:=hid H;clear H hc;go_enter Tryz.func101,Tryz.ntmps101
 go_wp2_with fail
 go_loopw [8] (fun i wr=>∃ k:Nat,k<=n∧i=.int .i64 k∧Hid (XC E s k=none)∧Hid (Below w.heap.size w wr)) (fun i _=>n-(RowKit.intOf i).toNat)
 case atStart=>exact⟨0,Nat.zero_le _,rfl,rfl,Below.refl _ _⟩
 case round=>
  obtain⟨k,hk,rfl,h0,G⟩:=hrel
  by_cases hlt:k<n
  ·have hlt':(k:Int)<n:=by omega
   obtain⟨b,o,rfl,hb,x0,x1,x2,x3⟩:=(HH.out.below G.out).c k hlt;have C1:=hid (CT.out (en E k) wr G.out);have HIT:=hid (fun he=>Z02 E s k h0.out he n hlt)
   have MISS:=hid (fun he=>VJ E s k h0.out he)
   generalize ((en E k).s.toList==s.toList)=r at C1 HIT MISS;cases r with
   | true=>
    have R:=hid (HIT.out rfl);clear HIT MISS CT HH;go_wp2_with fail
    go_at_fn g
    refine C1.out.mono ?_
    rintro _ w5 ⟨rfl,g5⟩;go_wp2
    go_ret
    exact⟨ret_int (by rw[R.out]; rfl),G.out.trans (g5.mono G.out.size)⟩
   | false=>
    have R:=hid (MISS.out rfl);clear HIT MISS CT HH;go_wp2_with fail
    go_at_fn g
    refine C1.out.mono ?_
    rintro _ w5 ⟨rfl,g5⟩;go_wp2
    go_roundw
    case rel=>exact⟨k+1,by omega,by go_num,R,hid (G.out.trans (g5.mono G.out.size))⟩
    case measure=>simp[RowKit.intOf]; omega
  ·obtain rfl:k=n:=by omega
   have hlt':¬ (k:Int)<k:=by omega
   go_wp2
   go_ret
   exact⟨ret_int (by rw[h0.out]; rfl),G.out⟩
theorem Z4T (a:Option Addr) (n c:Nat) (E:List En) (q:Nat) (s:ByteArray) (w:World) (H:YT w a n E) (hq:w.cell? ⟨q,0,none⟩=some (.string s)):
  Calls Tryz.prog 101 #[.slice a n c,.func (.func 102) #[] #[.pointer (some ⟨q,0,none⟩)]] w fun e w'=>e=.returned (.int .i64 (intO (XC E s n)))∧Below w.heap.size w w':=
 Z4S a n c E 102 #[.pointer (some ⟨q,0,none⟩)] s w H (enters_of Tryz.func102 (by kernel_rfl) rfl) (fun x wx g=>Z3U x q s wx ((g.cell (p:=⟨q,0,none⟩) (YL hq)).trans hq))
def fndV (r:En × Int):Value:=.tuple #[.agg #[.string r.1.s,.int .i64 r.1.b,.int .i64 r.1.a,.int .i64 r.1.n],.int .i64 r.2]
theorem Z0b (a:Option Addr) (n c:Nat) (a':Option Addr) (m c':Nat) (C:Ct) (s:ByteArray) (w:World) (H:ZW w a n c a' m C):
  Calls Tryz.prog 49 #[.agg #[.slice a n c,.slice a' m c'],.string s] w fun e w'=>e=.returned (fndV (ZD C s))∧Below w.heap.size w w':=by
 obtain⟨W1,hW1⟩:∃ W1,W1=(w.alloc (.cells #[.slice a n c,.slice a' m c'] 83)).alloc (.cells #[.string s] 9):=⟨_,rfl⟩;obtain⟨W,hW⟩:∃ W,W=W1.alloc (.cells #[.string ⟨#[]⟩,.int .i64 0,.int .i64 0,.int .i64 0] 95):=⟨_,rfl⟩;have hz1:W1.heap.size=w.heap.size+1+1:=by rw[hW1]; simp
 have hB:Below w.heap.size w W:=by rw[hW,hW1]; go_grown
 have k1:Own W w.heap.size 83 [.slice a n c,.slice a' m c']:=by rw[hW,hW1]; exact ((Own.made w 83 [.slice a n c,.slice a' m c']).alloc _).alloc _
 have k2:W.cell? ⟨w.heap.size+1,0,none⟩=some (.string s):=by
  have:=Own.made (w.alloc (.cells #[.slice a n c,.slice a' m c'] 83)) 9 [.string s]
  rw[show (w.alloc (.cells #[.slice a n c,.slice a' m c'] 83)).heap.size=w.heap.size+1 by simp] at this
  rw[hW,hW1];exact (this.alloc _).cell rfl
 have k3:Own W (w.heap.size+1+1) 95 [.string ⟨#[]⟩,.int .i64 0,.int .i64 0,.int .i64 0]:=by
  have:=Own.made W1 95 [.string ⟨#[]⟩,.int .i64 0,.int .i64 0,.int .i64 0]
  rw[hz1] at this;rw[hW]; exact this
 have h1:=Ww a n c a' m c' C W (H.below hB);rw[hW,hW1] at h1;have hq:w.heap.size+1<W.heap.size:=YL k2;have CI:=hid (fun wx (g:Below W.heap.size W wx)=>Z4T a' m c' C.2 (w.heap.size+1) s wx ((H.below hB).below g).E ((g.cell (p:=⟨w.heap.size+1,0,none⟩) hq).trans k2))
 rw[hW1] at hW;have HP:=hid (And.intro hB (And.intro (box2_of k1) (And.intro (VM k3) (And.intro hW (H.below hB)))));have hm:=H.E.sn;unfold ZD
 by_cases e:catChk C=0
 ·rw[if_pos e]
  rw[e] at h1;obtain⟨_,_,_,t4⟩:=Xg C e;rw[<- hm] at t4 ⊢;have T4:=hid t4;have H1:=hid h1;clear hB k1 k2 k3 h1 hW hW1 hz1 hq H e hm t4;cases hf:XC C.2 s m with
  | none=>
   rw[hf] at CI;have CI':Hid (∀ wx,Below W.heap.size W wx->Calls Tryz.prog 101 #[.slice a' m c',.func (.func 102) #[] #[.pointer (some ⟨w.heap.size+1,0,none⟩)]] wx fun e w'=>e=.returned (.int .i64 (-1))∧Below wx.heap.size wx w'):=CI
   clear CI hf T4;go_enter Tryz.func49,Tryz.ntmps49
   go_wp2_with fail
   refine H1.out.mono ?_
   rintro _ w1 ⟨rfl,g1⟩;rw[<- HP.out.2.2.2.1] at g1;have d0:=(HP.out.2.1.below g1).c0;have d1:=(HP.out.2.1.below g1).c1;have G1:=hid g1;clear g1 H1;go_wp2_with fail
   refine (CI'.out _ G1.out).mono ?_
   rintro _ w2 ⟨rfl,g2⟩;have G2:=hid (G1.out.trans (g2.mono G1.out.size));have J:=HP.out.2.2.1.below G2.out;obtain⟨y0,y1,y2,y3⟩:=J.ret (.string ⟨#[]⟩) (.int .i64 0) (.int .i64 0) (.int .i64 0);obtain⟨r0,r1,r2,r3,q0,q1,q2,q3,_⟩:=J;clear g2 d0 d1 CI';go_wp2
   refine bodyPost_ret (v:=fndV (nilE,6)) (by simp[results,Tryz.results49,go_sem,y0,y1,y2,y3,fndV,nilE]) rfl ?_
   exact⟨rfl,Below.four (HP.out.1.trans (G2.out.mono HP.out.1.size)) (by omega) _ _ _ _⟩
  | some i=>
   rw[hf] at CI;have hi:=findN_some C.2 s m i hf;have CI':Hid (∀ wx,Below W.heap.size W wx->Calls Tryz.prog 101 #[.slice a' m c',.func (.func 102) #[] #[.pointer (some ⟨w.heap.size+1,0,none⟩)]] wx fun e w'=>e=.returned (.int .i64 (i:Int))∧Below wx.heap.size wx w'):=CI
   have hi':(i:Int)<m:=by omega
   have nm:=Zs _ ((ZO _ _).1 (WJ C.2 _ m T4.out i hi)).1;have CC:=hid (fun wx=>Vs (en C.2 i) wx (by omega))
   clear CI hf T4 nm;go_enter Tryz.func49,Tryz.ntmps49
   go_wp2_with fail
   refine H1.out.mono ?_
   rintro _ w1 ⟨rfl,g1⟩;rw[<- HP.out.2.2.2.1] at g1;have d0:=(HP.out.2.1.below g1).c0;have d1:=(HP.out.2.1.below g1).c1;have G1:=hid g1;clear g1 H1;go_wp2_with fail
   refine (CI'.out _ G1.out).mono ?_
   rintro _ w2 ⟨rfl,g2⟩;have G2:=hid (G1.out.trans (g2.mono G1.out.size));clear g2 d0 d1 CI';have d0:=(HP.out.2.1.below G2.out).c0;have d1:=(HP.out.2.1.below G2.out).c1;obtain⟨b,o,rfl,hb,x0,x1,x2,x3⟩:=(HP.out.2.2.2.2.below G2.out).E.c i hi;go_wp2_with fail
   refine (CC.out _).mono ?_
   rintro _ w3 ⟨rfl,g3⟩;have G3:=hid (G2.out.trans (g3.mono G2.out.size));clear g3 d0 d1 x0 x1 x2 x3;have J:=HP.out.2.2.1.below G3.out;obtain⟨x,hx⟩:∃ x,en C.2 i=x:=⟨_,rfl⟩;have HX:=hid hx;rw[hx];clear hx CC;obtain⟨y0,y1,y2,y3⟩:=J.ret (.string x.s) (.int .i64 x.b) (.int .i64 x.a) (.int .i64 x.n);obtain⟨r0,r1,r2,r3,q0,q1,q2,q3,_⟩:=J;go_wp2
   refine bodyPost_ret (v:=fndV (x,0)) (by simp[results,Tryz.results49,go_sem,y0,y1,y2,y3,fndV]) rfl ?_
   exact⟨by rw[<- HX.out]; rfl,Below.four (HP.out.1.trans (G3.out.mono HP.out.1.size)) (by omega) _ _ _ _⟩
 ·rw[if_neg e]
  generalize catChk C=T at h1 e;have e':(T != 0)=true:=by rw[bne_iff_ne]; exact e
  have H1:=hid h1;clear hB k1 k2 k3 h1 hW hW1 hz1 hq H e hm CI;go_enter Tryz.func49,Tryz.ntmps49
  go_wp2_with fail
  refine H1.out.mono ?_
  rintro _ w1 ⟨rfl,g1⟩;rw[<- HP.out.2.2.2.1] at g1;have G2:=hid g1;have J:=HP.out.2.2.1.below G2.out;obtain⟨y0,y1,y2,y3⟩:=J.ret (.string ⟨#[]⟩) (.int .i64 0) (.int .i64 0) (.int .i64 0);obtain⟨r0,r1,r2,r3,q0,q1,q2,q3,_⟩:=J;clear g1 H1;go_wp2
  refine bodyPost_ret (v:=fndV (nilE,T)) (by simp[results,Tryz.results49,go_sem,y0,y1,y2,y3,fndV,nilE]) rfl ?_
  exact⟨rfl,Below.four (HP.out.1.trans (G2.out.mono HP.out.1.size)) (by omega) _ _ _ _⟩
theorem Z0R (a:Option Addr) (n c:Nat) (a':Option Addr) (m c':Nat) (C:Ct) (s:ByteArray) (w:World) (H:ZW w a n c a' m C):
  Calls Tryz.prog 70 #[.agg #[.slice a n c,.slice a' m c'],.string s] w fun e w'=>e=.returned (fndV (ZD C s))∧Below w.heap.size w w':=by
 obtain⟨W1,hW1⟩:∃ W1,W1=w.alloc (.cells #[.slice a n c,.slice a' m c'] 83):=⟨_,rfl⟩;obtain⟨W,hW⟩:∃ W,W=W1.alloc (.cells #[.string ⟨#[]⟩,.int .i64 0,.int .i64 0,.int .i64 0] 95):=⟨_,rfl⟩;have hz1:W1.heap.size=w.heap.size+1:=by rw[hW1]; simp
 have hB:Below w.heap.size w W:=by rw[hW,hW1]; go_grown
 have k1:Own W w.heap.size 83 [.slice a n c,.slice a' m c']:=by rw[hW,hW1]; exact (Own.made w 83 [.slice a n c,.slice a' m c']).alloc _
 have k3:Own W (w.heap.size+1) 95 [.string ⟨#[]⟩,.int .i64 0,.int .i64 0,.int .i64 0]:=by
  have:=Own.made W1 95 [.string ⟨#[]⟩,.int .i64 0,.int .i64 0,.int .i64 0]
  rw[hz1] at this;rw[hW]; exact this
 have h1:=Vl a n c a' m c' C W (H.below hB);rw[hW,hW1] at h1;rw[hW1] at hW;have HP:=hid (And.intro hB (And.intro (box2_of k1) (And.intro (VM k3) (And.intro hW (H.below hB)))));have hm:=H.E.sn;unfold ZD
 by_cases e:catChk C=0
 ·rw[if_pos e]
  rw[e] at h1;obtain⟨_,t2,_,_⟩:=Xg C e;rw[<- hm] at t2 ⊢;have H1:=hid h1;clear hB k1 k3 h1 hW hW1 hz1 H e hm;obtain⟨R,hR⟩:∃ R:En × Int,R=fndO C.2 (XC C.2 s m):=⟨_,rfl⟩;rw[<- hR];have HR:=hid hR;clear hR;go_enter Tryz.func70,Tryz.ntmps70
  go_wp2_with fail
  refine H1.out.mono ?_
  rintro _ w1 ⟨rfl,g1⟩;rw[<- HP.out.2.2.2.1] at g1;have d0:=(HP.out.2.1.below g1).c0;have d1:=(HP.out.2.1.below g1).c1;have G1:=hid g1;clear g1 H1;go_wp2_with fail
  go_loopw [7] (fun i wr=>∃ k:Nat,k<=m∧i=.int .i64 k∧Hid (XC C.2 s k=none)∧wr=w1) (fun i _=>m-(RowKit.intOf i).toNat)
  case atStart=>exact⟨0,Nat.zero_le _,rfl,rfl,rfl⟩
  case round=>
   obtain⟨k,hk,rfl,h0,rfl⟩:=hrel;have J:=HP.out.2.2.1.below G1.out
   by_cases hlt:k<m
   ·have hlt':(k:Int)<m:=by omega
    obtain⟨b,o,rfl,hb,x0,x1,x2,x3⟩:=(HP.out.2.2.2.2.below G1.out).E.c k hlt;cases he:((en C.2 k).s.toList==s.toList) with
    | true=>
     have F:=hid (show R=(en C.2 k,0) by rw[HR.out,Z02 C.2 s k h0.out he m hlt]; rfl)
     generalize en C.2 k=x at x0 x1 x2 x3 he F;obtain⟨y0,y1,y2,y3⟩:=J.ret (.string x.s) (.int .i64 x.b) (.int .i64 x.a) (.int .i64 x.n);obtain⟨r0,r1,r2,r3,q0,q1,q2,q3,_⟩:=J;go_wp2
     refine bodyPost_ret (v:=fndV (x,0)) (by simp[results,Tryz.results70,go_sem,y0,y1,y2,y3,fndV]) rfl ?_
     exact⟨by rw[F.out],Below.four (HP.out.1.trans (G1.out.mono HP.out.1.size)) (by omega) _ _ _ _⟩
    | false=>
     have F:=hid (VJ C.2 s k h0.out he);generalize en C.2 k=x at x0 x1 x2 x3 he;clear J;go_wp2
     go_roundw
     case rel=>exact⟨k+1,by omega,by go_num,F,by first | rfl | trivial⟩
     case measure=>simp[RowKit.intOf]; omega
   ·obtain rfl:k=m:=by omega
    have hlt':¬ (k:Int)<k:=by omega
    have F:=hid (show R=(nilE,6) by rw[HR.out,h0.out]; rfl)
    obtain⟨y0,y1,y2,y3⟩:=J.ret (.string ⟨#[]⟩) (.int .i64 0) (.int .i64 0) (.int .i64 0);obtain⟨r0,r1,r2,r3,q0,q1,q2,q3,_⟩:=J;go_wp2
    refine bodyPost_ret (v:=fndV (nilE,6)) (by simp[results,Tryz.results70,go_sem,y0,y1,y2,y3,fndV,nilE]) rfl ?_
    exact⟨by rw[F.out],Below.four (HP.out.1.trans (G1.out.mono HP.out.1.size)) (by omega) _ _ _ _⟩
 ·rw[if_neg e]
  generalize catChk C=T at h1 e;have e':(T != 0)=true:=by rw[bne_iff_ne]; exact e
  have H1:=hid h1;clear hB k1 k3 h1 hW hW1 hz1 H e hm;go_enter Tryz.func70,Tryz.ntmps70
  go_wp2_with fail
  refine H1.out.mono ?_
  rintro _ w1 ⟨rfl,g1⟩;rw[<- HP.out.2.2.2.1] at g1;have G2:=hid g1;have J:=HP.out.2.2.1.below G2.out;obtain⟨y0,y1,y2,y3⟩:=J.ret (.string ⟨#[]⟩) (.int .i64 0) (.int .i64 0) (.int .i64 0);obtain⟨r0,r1,r2,r3,q0,q1,q2,q3,_⟩:=J;clear g1 H1;go_wp2
  refine bodyPost_ret (v:=fndV (nilE,T)) (by simp[results,Tryz.results70,go_sem,y0,y1,y2,y3,fndV,nilE]) rfl ?_
  exact⟨rfl,Below.four (HP.out.1.trans (G2.out.mono HP.out.1.size)) (by omega) _ _ _ _⟩
end Go.Proofs.YtdnacpbgodooaaaGreatDoor
