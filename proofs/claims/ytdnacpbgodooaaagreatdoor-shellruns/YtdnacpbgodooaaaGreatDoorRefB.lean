import Derived.Test.YtdnacpbgodooaaaGreatDoorRefA
import Derived.Deep.DeepCutAuto
set_option maxHeartbeats 1600000
set_option maxRecDepth 4000
namespace Go.Proofs.YtdnacpbgodooaaaGreatDoor
open Go.RowKit Go.Lib
theorem Xd (a:Option Addr) (n c:Nat) (a':Option Addr) (m c':Nat) (i no:Int) (D:Dv) (w:World) (h:Zc w a n a' m D):
  Calls Tryz.prog 131 #[.agg #[.slice a n c,.slice a' m c'],.int .i64 i,.int .i64 no] w fun e w'=>e=.returned (.tuple #[.string (str (dvRead D i no).1),.int .i64 (dvRead D i no).2])∧Below w.heap.size w w':=by
 obtain⟨W,hW⟩:∃ W,W=w.alloc (.cells #[.slice a n c,.slice a' m c'] 56):=⟨_,rfl⟩;have hB:Below w.heap.size w W:=by rw[hW]; go_grown
 have hz:W.heap.size=w.heap.size+1:=by rw[hW]; simp
 have c0:W.cell? ⟨w.heap.size,0,none⟩=some (.slice a n c):=by rw[hW]; simp
 have c1:W.cell? ⟨w.heap.size,1,none⟩=some (.slice a' m c'):=by rw[hW]; simp
 have hT:=Yr a n c a' m c' i D W (h.below hB)
 by_cases ht:dvTouch D i=0
 ·obtain⟨_,h0,h1,h2,_⟩:=ZM D i ht
  obtain⟨k,rfl⟩:∃ k:Nat,i=k:=⟨i.toNat,by omega⟩
  rw[ht] at hT;have hkn:k<n:=by rw[h.sn]; omega
  have hkm:k<m:=by rw[h.sm]; omega
  obtain⟨p,o,rfl,hp,e1⟩:=(h.below hB).sector k hkn;obtain⟨p',o',rfl,hp',e2⟩:=(h.below hB).lost k hkm;have hkn':(k:Int)<n:=by omega
  have hkm':(k:Int)<m:=by omega
  rw[dvRead,if_pos ht];rw[hW] at hT;have HT:=hid hT;have HE:=hid hW;have HP:=hid (And.intro hB (And.intro hz (And.intro c0 (And.intro c1 (And.intro (And.intro hp e1) (And.intro hp' e2))))));have hto:(k:Int).toNat=k:=by omega
  rw[hto];clear hB hz c0 c1 hp e1 hp' e2 hT hW h ht h0 h1 h2 hto hkn hkm;generalize sec D k=s at HP;generalize los D k=l at HP;cases l with
  | true=>
   rw[if_pos rfl];go_enter Tryz.func131,Tryz.ntmps131
   go_wp2_with fail
   refine HT.out.mono ?_
   rintro _ w1 ⟨rfl,g1⟩;rw[<- HE.out] at g1;have c1:=(g1.cell (p:=⟨w.heap.size,1,none⟩) (by show w.heap.size<W.heap.size; rw[HP.out.2.1]; omega)).trans HP.out.2.2.2.1
   have e2:=(g1.cell (p:=⟨p',o'+k,none⟩) HP.out.2.2.2.2.2.1).trans HP.out.2.2.2.2.2.2;have HG:=hid (HP.out.1.trans (g1.mono HP.out.1.size));clear g1;go_wp2
   go_ret2
   exact⟨rfl,HG.out⟩
  | false=>
   rw[if_neg (by decide)]
   have HY:=hid (fun wx=>Z0Y no s wx)
   generalize decd no s.data.toList=r at HY;go_enter Tryz.func131,Tryz.ntmps131
   go_wp2_with fail
   refine HT.out.mono ?_
   rintro _ w1 ⟨rfl,g1⟩;rw[<- HE.out] at g1;have c0:=(g1.cell (p:=⟨w.heap.size,0,none⟩) (by show w.heap.size<W.heap.size; rw[HP.out.2.1]; omega)).trans HP.out.2.2.1
   have c1:=(g1.cell (p:=⟨w.heap.size,1,none⟩) (by show w.heap.size<W.heap.size; rw[HP.out.2.1]; omega)).trans HP.out.2.2.2.1
   have e1:=(g1.cell (p:=⟨p,o+k,none⟩) HP.out.2.2.2.2.1.1).trans HP.out.2.2.2.2.1.2;have e2:=(g1.cell (p:=⟨p',o'+k,none⟩) HP.out.2.2.2.2.2.1).trans HP.out.2.2.2.2.2.2;have HG:=hid (HP.out.1.trans (g1.mono HP.out.1.size));clear g1;go_wp2_with fail
   refine (HY.out _).mono ?_
   rintro _ w2 ⟨rfl,g2⟩;go_wp2
   go_ret2
   exact⟨rfl,HG.out.trans (g2.mono HG.out.size)⟩
 ·rw[dvRead,if_neg ht]
  rw[hW] at hT;have HT:=hid hT;have HP:=hid hB;have HE:=hid hW;clear hB hz c0 c1 hT hW h;generalize dvTouch D i=r at HT ht;have hr:(r==0)=false:=beq_eq_false_iff_ne.2 ht;have hr2:(r != 0)=true:=bne_iff_ne.2 ht;clear ht;go_enter Tryz.func131,Tryz.ntmps131
  go_wp2_with fail
  refine HT.out.mono ?_
  rintro _ w1 ⟨rfl,g1⟩;rw[<- HE.out] at g1;have HG:=hid (HP.out.trans (g1.mono HP.out.size));clear g1;go_wp2
  go_ret2
  exact⟨rfl,HG.out⟩
end Go.Proofs.YtdnacpbgodooaaaGreatDoor
namespace Go.Proofs.YtdnacpbgodooaaaGreatDoor
open Go.RowKit Go.Lib
structure RefI (w:World) (po pr b b' n c1 m c2:Nat) (V V':List Value) (W:World):Prop where
 o:Box2 W po (.slice (some ⟨b,0,none⟩) n c1) (.slice (some ⟨b',0,none⟩) m c2)
 r:Box2 W pr (.slice none 0 0) (.slice none 0 0)
 s:Own W b 9 V
 l:Own W b' 4 V'
 below:Below w.heap.size w W
 ge:w.heap.size<=pr∧w.heap.size<=b∧w.heap.size<=b'
 ne:po≠b∧po≠b'∧pr≠b∧pr≠b'∧b≠b'
section
variable {w W:World} {po pr b b' n c1 m c2:Nat} {V V':List Value}
theorem RefI.setS (h:RefI w po pr b b' n c1 m c2 V V' W) {k:Nat} (hk:k<V.length) (v:Value):RefI w po pr b b' n c1 m c2 (V.set k v) V' (W.setCell ⟨b,k,none⟩ v):=
 ⟨h.o.other h.ne.1 v,h.r.other h.ne.2.2.1 v,h.s.set hk v,h.l.other (fun e=>h.ne.2.2.2.2 e.symm) v,h.below.setCell h.ge.2.1 v,h.ge,h.ne⟩
theorem RefI.setL (h:RefI w po pr b b' n c1 m c2 V V' W) {k:Nat} (hk:k<V'.length) (v:Value):RefI w po pr b b' n c1 m c2 V (V'.set k v) (W.setCell ⟨b',k,none⟩ v):=
 ⟨h.o.other h.ne.2.1 v,h.r.other h.ne.2.2.2.1 v,h.s.other h.ne.2.2.2.2 v,h.l.set hk v,h.below.setCell h.ge.2.2 v,h.ge,h.ne⟩
theorem RefI.out (h:RefI w po pr b b' n c1 m c2 V V' W) (D:Dv) (hV:V=D.1.map .string) (hV':V'=D.2.map .bool) (hn:n=D.1.length) (hm:m=D.2.length) (nb:n<=maxLen) (mb:m<=maxLen):
  OutE w (D,0) (.returned (.tuple #[.agg #[.slice (some ⟨b,0,none⟩) n c1,.slice (some ⟨b',0,none⟩) m c2],.int .i64 0])) ((W.setCell ⟨pr,0,none⟩ (.slice (some ⟨b,0,none⟩) n c1)).setCell ⟨pr,1,none⟩ (.slice (some ⟨b',0,none⟩) m c2)):=by
 subst hV; subst hV'
 have k1:=(h.s.other (p:=⟨pr,0,none⟩) (fun e=>h.ne.2.2.1 e.symm) (.slice (some ⟨b,0,none⟩) n c1)).other (p:=⟨pr,1,none⟩) (fun e=>h.ne.2.2.1 e.symm) (.slice (some ⟨b',0,none⟩) m c2)
 have k2:=(h.l.other (p:=⟨pr,0,none⟩) (fun e=>h.ne.2.2.2.1 e.symm) (.slice (some ⟨b,0,none⟩) n c1)).other (p:=⟨pr,1,none⟩) (fun e=>h.ne.2.2.2.1 e.symm) (.slice (some ⟨b',0,none⟩) m c2)
 exact⟨_,n,c1,_,m,c2,rfl,⟨hn,hm,k1.row,k2.row,nb,mb⟩,VI h.ge.2.1 h.ge.2.2,(h.below.setCell h.ge.1 _).setCell h.ge.1 _⟩
end
theorem VD {w W w2:World} {pr n c1 m c2:Nat} {ao ao':Option Addr} {D:Dv} {B:Nat} (hN:Zj B w2 ao ao' D) (hB:pr<B) (hpr:w.heap.size<=pr) (hb:Below w.heap.size w w2) (hr:Box2 w2 pr (.slice none 0 0) (.slice none 0 0)) (h1:D.1≠[]) (h2:D.2≠[]) (hW:W=w2.alloc (.cells #[.slice ao n c1,.slice ao' m c2] 56)):
  ∃ b b',ao=some ⟨b,0,none⟩∧ao'=some ⟨b',0,none⟩∧RefI w w2.heap.size pr b b' n c1 m c2 (D.1.map .string) (D.2.map .bool) W:=by
 rcases hN.S with e | ⟨b,rfl,gb,ob⟩
 ·exact absurd e h1
 rcases hN.L with e | ⟨b',rfl,gb',ob'⟩
 ·exact absurd e h2
 have hne:=hN.apart h1 h2 b b' rfl rfl;have l1:=ob.lt;have l2:=ob'.lt;have hbw:Below w2.heap.size w2 W:=by rw[hW]; exact (Below.refl _ w2).alloc (Nat.le_refl _) _
 have l3:=hr.lt;refine⟨b,b',rfl,rfl,⟨?_,hr.below hbw,ob.below' hbw,ob'.below' hbw,hb.trans (hbw.mono hb.size),⟨hpr,by omega,by omega⟩,⟨by omega,by omega,by omega,by omega,hne⟩⟩⟩
 rw[hW];exact box2_of (Own.made w2 56 [.slice (some ⟨b,0,none⟩) n c1,.slice (some ⟨b',0,none⟩) m c2])
theorem UH (w:World) (d1 d2:Value):∃ W,W=(w.alloc (.cells #[d1,d2] 56)).alloc (.cells #[.slice none 0 0,.slice none 0 0] 56)∧Below w.heap.size w W∧W.heap.size=w.heap.size+2∧Box2 W w.heap.size d1 d2∧Box2 W (w.heap.size+1) (.slice none 0 0) (.slice none 0 0):=by
 refine⟨_,rfl,by go_grown,by simp,?_,?_⟩
 ·exact⟨by simp[go_sem],by simp[go_sem],by simp[go_sem],by simp[go_sem],by simp; omega⟩
 ·exact⟨by simp[go_sem],by simp[go_sem],by simp[go_sem],by simp[go_sem],by simp⟩
theorem Zy (a:Option Addr) (n c:Nat) (a':Option Addr) (m c':Nat) (i no:Int) (s:ByteArray) (D:Dv) (w:World) (h:Zc w a n a' m D):
  Calls Tryz.prog 130 #[.agg #[.slice a n c,.slice a' m c'],.int .i64 i,.int .i64 no,.string s] w (OutE w (dvWrite D i no s.data.toList)):=by
 obtain⟨W,hW,hB,hz,bd,br⟩:=UH w (.slice a n c) (.slice a' m c');have hT:=Yr a n c a' m c' i D W (h.below hB);have HP:=hid (And.intro hW (And.intro hB (And.intro hz (And.intro bd br))));rw[hW] at hT
 by_cases ht:dvTouch D i=0
 ·obtain⟨hmay,h0,h1,h2,h64⟩:=ZM D i ht
  obtain⟨k,rfl⟩:∃ k:Nat,i=k:=⟨i.toNat,by omega⟩
  rw[ht] at hT;have HT:=hid hT;have HY:=hid (fun wx=>Z0c no s wx)
  rw[dvWrite,Vu D k _ ht];generalize encd no s.data.toList=r at HY
  by_cases h3:r.2=0
  ·rw[if_pos h3]
   rw[h3] at HY;have hkn:k<n:=by rw[h.sn]; omega
   have hkm:k<m:=by rw[h.sm]; omega
   have hkn':(k:Int)<n:=by omega
   have hkm':(k:Int)<m:=by omega
   have n64:n<=64:=by rw[h.sn]; exact h64
   have m64:m<=64:=by rw[h.sm]; omega
   have HC:=hid (fun wx (g:Below W.heap.size W wx)=>Yy a n c a' m c' D wx ((h.below hB).below g) (by omega) (by omega))
   have HD:=hid h;have HK:=hid (And.intro hkn hkm);clear hT hW hB hz bd br h ht hmay h0 h1 h2 h64 h3 hkn hkm n64 m64;go_enter Tryz.func130,Tryz.ntmps130
   go_wp2_with fail
   refine HT.out.mono ?_
   rintro _ w1 ⟨rfl,g1⟩;rw[<- HP.out.1] at g1;go_wp2_with fail
   refine (HY.out _).mono ?_
   rintro _ w2 ⟨rfl,g2⟩;have g3:=g1.trans (g2.mono g1.size);have bd2:=HP.out.2.2.2.1.below g3;have d0:=bd2.c0;have d1:=bd2.c1;have G3:=hid g3;clear g1 g2 bd2 g3;go_wp2_with fail
   refine (HC.out _ G3.out).mono ?_
   rintro _ w3 ⟨ao,c1,ao',c2,rfl,hN,g4⟩;have g5:=G3.out.trans (g4.mono G3.out.size);obtain⟨b,b',rfl,rfl,hI⟩:=VD (w:=w) (W:=w3.alloc (.cells #[.slice ao n c1,.slice ao' m c2] 56)) (pr:=w.heap.size+1) hN (by have:=G3.out.size; rw[HP.out.2.2.1] at this; omega) (by omega) (HP.out.2.1.trans (g5.mono HP.out.2.1.size)) (HP.out.2.2.2.2.below g5) (by intro e; have:=HD.out.sn; rw[e] at this; have:=HK.out; simp at *; omega) (by intro e; have:=HD.out.sm; rw[e] at this; have:=HK.out; simp at *; omega) rfl
   clear hN g4 g5 d0 d1;go_upto_region 8 with fail
   generalize w3.alloc (.cells #[.slice (some ⟨b,0,none⟩) n c1,.slice (some ⟨b',0,none⟩) m c2] 56)=W3 at hI;have hI4:=hI.setS (k:=k) (by rw[List.length_map,<- HD.out.sn]; exact HK.out.1) (.string (str r.1))
   have hI5:=hI4.setL (k:=k) (by rw[List.length_map,<- HD.out.sm]; exact HK.out.2) (.bool false)
   have p0:=hI.o.c0;obtain⟨x,hx⟩:∃ x,(D.1.map Value.string)[k]?=some x:=⟨_,List.getElem?_eq_getElem (by rw[List.length_map,<- HD.out.sn]; exact HK.out.1)⟩
   obtain⟨y,hy⟩:∃ y,(D.2.map Value.bool)[k]?=some y:=⟨_,List.getElem?_eq_getElem (by rw[List.length_map,<- HD.out.sm]; exact HK.out.2)⟩
   have p1:=hI.s.cell hx;have p2:=hI.s.free k;have p3:=hI4.o.c1;have p4:=hI4.l.cell hy;have p5:=hI4.l.free k;have p6:=hI5.o.c0;have p7:=hI5.o.c1;have v0:=hI5.r.c0;have v1:=hI5.r.c1;have x0:=hI5.r.f0;have x1:=hI5.r.f1;obtain⟨y0,y1⟩:=Z6 (.slice (some ⟨b,0,none⟩) n c1) (.slice (some ⟨b',0,none⟩) m c2) v0 v1;have K:=hid (hI5.out (dvPut D k (str r.1) false) (Wo D k (str r.1) false).1 (Wo D k (str r.1) false).2 (by rw[(XM D k (str r.1) false).1]; exact HD.out.sn) (by rw[(XM D k (str r.1) false).2]; exact HD.out.sm) HD.out.nb HD.out.mb)
   clear hI hI4 hI5 hx hy;go_wp2
   refine bodyPost_ret (v:=.tuple #[.agg #[.slice (some ⟨b,0,none⟩) n c1,.slice (some ⟨b',0,none⟩) m c2],.int .i64 0]) (by simp[results,Tryz.results130,go_sem,y0,y1]) rfl ?_
   exact K.out
  ·rw[if_neg h3]
   have h3':(r.2 != 0)=true:=bne_iff_ne.2 h3;clear hT hW hB hz bd br h ht hmay h0 h1 h2 h64 h3;go_enter Tryz.func130,Tryz.ntmps130
   go_wp2_with fail
   refine HT.out.mono ?_
   rintro _ w1 ⟨rfl,g1⟩;rw[<- HP.out.1] at g1;go_wp2_with fail
   refine (HY.out _).mono ?_
   rintro _ w2 ⟨rfl,g2⟩;have g3:=g1.trans (g2.mono g1.size);clear g1 g2;have rb:=HP.out.2.2.2.2.below g3;have v0:=rb.c0;have v1:=rb.c1;have x0:=rb.f0;have x1:=rb.f1;obtain⟨y0,y1⟩:=Z6 (.slice none 0 0) (.slice none 0 0) v0 v1;have K:=hid (((HP.out.2.1.trans ((g3).mono HP.out.2.1.size)).setCell (p:=⟨w.heap.size+1,0,none⟩) (by show w.heap.size<=w.heap.size+1; omega) (.slice none 0 0)).setCell (p:=⟨w.heap.size+1,1,none⟩) (by show w.heap.size<=w.heap.size+1; omega) (.slice none 0 0))
   clear rb;go_wp2
   refine bodyPost_ret (v:=.tuple #[.agg #[.slice none 0 0,.slice none 0 0],.int .i64 r.2]) (by simp[results,Tryz.results130,go_sem,y0,y1]) rfl ?_
   exact⟨none,0,0,none,0,0,rfl,devAt_none _,fresh_none _,K.out⟩
 ·rw[dvWrite,dvChange,if_neg ht]
  have HT:=hid hT;clear hT hW hB hz bd br h;generalize dvTouch D i=t at HT ht;have ht':(t != 0)=true:=bne_iff_ne.2 ht;clear ht;go_enter Tryz.func130,Tryz.ntmps130
  go_wp2_with fail
  refine HT.out.mono ?_
  rintro _ w1 ⟨rfl,g1⟩;rw[<- HP.out.1] at g1;have rb:=HP.out.2.2.2.2.below g1;have v0:=rb.c0;have v1:=rb.c1;have x0:=rb.f0;have x1:=rb.f1;obtain⟨y0,y1⟩:=Z6 (.slice none 0 0) (.slice none 0 0) v0 v1;have K:=hid (((HP.out.2.1.trans ((g1).mono HP.out.2.1.size)).setCell (p:=⟨w.heap.size+1,0,none⟩) (by show w.heap.size<=w.heap.size+1; omega) (.slice none 0 0)).setCell (p:=⟨w.heap.size+1,1,none⟩) (by show w.heap.size<=w.heap.size+1; omega) (.slice none 0 0))
  clear rb;go_wp2
  refine bodyPost_ret (v:=.tuple #[.agg #[.slice none 0 0,.slice none 0 0],.int .i64 t]) (by simp[results,Tryz.results130,go_sem,y0,y1]) rfl ?_
  exact⟨none,0,0,none,0,0,rfl,devAt_none _,fresh_none _,K.out⟩
theorem WO (a:Option Addr) (n c:Nat) (a':Option Addr) (m c':Nat) (i:Int) (D:Dv) (w:World) (h:Zc w a n a' m D):
  Calls Tryz.prog 33 #[.agg #[.slice a n c,.slice a' m c'],.int .i64 i] w (OutE w (dvLose D i)):=by
 obtain⟨W,hW,hB,hz,bd,br⟩:=UH w (.slice a n c) (.slice a' m c');have hT:=Yr a n c a' m c' i D W (h.below hB);have HP:=hid (And.intro hW (And.intro hB (And.intro hz (And.intro bd br))));rw[hW] at hT
 by_cases ht:dvTouch D i=0
 ·obtain⟨hmay,h0,h1,h2,h64⟩:=ZM D i ht
  obtain⟨k,rfl⟩:∃ k:Nat,i=k:=⟨i.toNat,by omega⟩
  rw[ht] at hT;have HT:=hid hT;rw[dvLose,Vu D k _ ht];rw[if_pos rfl];have hto:(k:Int).toNat=k:=by omega
  rw[hto];have hkn:k<n:=by rw[h.sn]; omega
  have hkm:k<m:=by rw[h.sm]; omega
  have hkn':(k:Int)<n:=by omega
  have hkm':(k:Int)<m:=by omega
  have n64:n<=64:=by rw[h.sn]; exact h64
  have m64:m<=64:=by rw[h.sm]; omega
  have HC:=hid (fun wx (g:Below W.heap.size W wx)=>Yy a n c a' m c' D wx ((h.below hB).below g) (by omega) (by omega))
  have HD:=hid h;have HK:=hid (And.intro hkn hkm);clear hT hW hB hz bd br h ht hmay h0 h1 h2 h64 hto hkn hkm n64 m64;go_enter Tryz.func33,Tryz.ntmps33
  go_wp2_with fail
  refine HT.out.mono ?_
  rintro _ w1 ⟨rfl,g1⟩;rw[<- HP.out.1] at g1;have g3:=g1;have bd2:=HP.out.2.2.2.1.below g3;have d0:=bd2.c0;have d1:=bd2.c1;have G3:=hid g3;clear g1 bd2 g3;go_wp2_with fail
  refine (HC.out _ G3.out).mono ?_
  rintro _ w3 ⟨ao,c1,ao',c2,rfl,hN,g4⟩;have g5:=G3.out.trans (g4.mono G3.out.size);obtain⟨b,b',rfl,rfl,hI⟩:=VD (w:=w) (W:=w3.alloc (.cells #[.slice ao n c1,.slice ao' m c2] 56)) (pr:=w.heap.size+1) hN (by have:=G3.out.size; rw[HP.out.2.2.1] at this; omega) (by omega) (HP.out.2.1.trans (g5.mono HP.out.2.1.size)) (HP.out.2.2.2.2.below g5) (by intro e; have:=HD.out.sn; rw[e] at this; have:=HK.out; simp at *; omega) (by intro e; have:=HD.out.sm; rw[e] at this; have:=HK.out; simp at *; omega) rfl
  clear hN g4 g5 d0 d1;go_upto_region 5 with fail
  generalize w3.alloc (.cells #[.slice (some ⟨b,0,none⟩) n c1,.slice (some ⟨b',0,none⟩) m c2] 56)=W3 at hI;have hI5:=hI.setL (k:=k) (by rw[List.length_map,<- HD.out.sm]; exact HK.out.2) (.bool true)
  obtain⟨y,hy⟩:∃ y,(D.2.map Value.bool)[k]?=some y:=⟨_,List.getElem?_eq_getElem (by rw[List.length_map,<- HD.out.sm]; exact HK.out.2)⟩
  have p3:=hI.o.c1;have p4:=hI.l.cell hy;have p5:=hI.l.free k;have p6:=hI5.o.c0;have p7:=hI5.o.c1;have v0:=hI5.r.c0;have v1:=hI5.r.c1;have x0:=hI5.r.f0;have x1:=hI5.r.f1;obtain⟨y0,y1⟩:=Z6 (.slice (some ⟨b,0,none⟩) n c1) (.slice (some ⟨b',0,none⟩) m c2) v0 v1;have K:=hid (hI5.out (dvPut D k (sec D k) true) (by rw[Z3s D k true (by rw[<- HD.out.sn]; exact HK.out.1)]) (Wo D k (sec D k) true).2 (by rw[(XM D k (sec D k) true).1]; exact HD.out.sn) (by rw[(XM D k (sec D k) true).2]; exact HD.out.sm) HD.out.nb HD.out.mb)
  clear hI hI5 hy;go_wp2
  refine bodyPost_ret (v:=.tuple #[.agg #[.slice (some ⟨b,0,none⟩) n c1,.slice (some ⟨b',0,none⟩) m c2],.int .i64 0]) (by simp[results,Tryz.results33,go_sem,y0,y1]) rfl ?_
  exact K.out
 ·rw[dvLose,dvChange,if_neg ht]
  have HT:=hid hT;clear hT hW hB hz bd br h;generalize dvTouch D i=t at HT ht;have ht':(t != 0)=true:=bne_iff_ne.2 ht;clear ht;go_enter Tryz.func33,Tryz.ntmps33
  go_wp2_with fail
  refine HT.out.mono ?_
  rintro _ w1 ⟨rfl,g1⟩;rw[<- HP.out.1] at g1;have rb:=HP.out.2.2.2.2.below g1;have v0:=rb.c0;have v1:=rb.c1;have x0:=rb.f0;have x1:=rb.f1;obtain⟨y0,y1⟩:=Z6 (.slice none 0 0) (.slice none 0 0) v0 v1;have K:=hid (((HP.out.2.1.trans ((g1).mono HP.out.2.1.size)).setCell (p:=⟨w.heap.size+1,0,none⟩) (by show w.heap.size<=w.heap.size+1; omega) (.slice none 0 0)).setCell (p:=⟨w.heap.size+1,1,none⟩) (by show w.heap.size<=w.heap.size+1; omega) (.slice none 0 0))
  clear rb;go_wp2
  refine bodyPost_ret (v:=.tuple #[.agg #[.slice none 0 0,.slice none 0 0],.int .i64 t]) (by simp[results,Tryz.results33,go_sem,y0,y1]) rfl ?_
  exact⟨none,0,0,none,0,0,rfl,devAt_none _,fresh_none _,K.out⟩
end Go.Proofs.YtdnacpbgodooaaaGreatDoor
namespace Go.Proofs.YtdnacpbgodooaaaGreatDoor
open Go.RowKit Go.Lib
theorem Yz (n:Nat) (w:World) (h:n<=1000):Calls Tryz.prog 133 #[.int .i64 n] w fun e w'=>e=.returned (.int .i64 (part n))∧w'=w:=by
 unfold part
 by_cases h2:n % 2=0
 ·rw[if_pos h2]
  have e:((n:Int).tmod 2==0)=true:=by rw[beq_iff_eq,Int.tmod_eq_emod_of_nonneg (by omega)]; omega
  go_enter Tryz.func133,Tryz.ntmps133
  go_wp2
  go_ret
  exact⟨ret_int (by omega),rfl⟩
 ·rw[if_neg h2]
  have e:((n:Int).tmod 2==0)=false:=by rw[beq_eq_false_iff_ne,Int.tmod_eq_emod_of_nonneg (by omega)]; omega
  go_enter Tryz.func133,Tryz.ntmps133
  go_wp2
  go_ret
  exact⟨ret_int (by omega),rfl⟩
theorem U0 (b o c:Nat) (h:Nat->Hd) (A:Ar) (n:Nat) (w:World) (H:Arr w b o 3 h A):
  Calls Tryz.prog 136 #[.agg #[.slice (some ⟨b,o,none⟩) 3 c],.int .i64 n] w fun e w'=>e=.returned (.tuple #[.string (str (mirr A n).1),.int .i64 (mirr A n).2])∧Below w.heap.size w w':=by
 obtain⟨W,hW⟩:∃ W,W=w.alloc (.cells #[.slice (some ⟨b,o,none⟩) 3 c] 26):=⟨_,rfl⟩;have hB:Below w.heap.size w W:=by rw[hW]; go_grown
 have hz:W.heap.size=w.heap.size+1:=by rw[hW]; simp
 have c0:W.cell? ⟨w.heap.size,0,none⟩=some (.slice (some ⟨b,o,none⟩) 3 c):=by rw[hW]; simp
 have HA:=H.below hB;have h1:=Xd (h 0).x (h 0).p (h 0).c (h 0).y (h 0).q (h 0).d n n (dev A 0) W (HA.dv 0 (by omega))
 have h2:=fun wx (g:Below W.heap.size W wx)=>Xd (h 1).x (h 1).p (h 1).c (h 1).y (h 1).q (h 1).d n n (dev A 1) wx ((HA.below g).dv 1 (by omega))
 obtain⟨⟨t0,t1⟩,⟨t2,t3⟩,_,_⟩:=HA.three;unfold mirr;generalize dvRead (dev A 0) n n=r0 at h1;generalize dvRead (dev A 1) n n=r1 at h2;have HP:=hid (And.intro hB (And.intro hz (And.intro c0 (And.intro t2 (And.intro t3 HA.lt)))));rw[hW] at h1 t0 t1;have H1:=hid h1;have H2:=hid h2;have HE:=hid hW;clear h1 h2 hW hB hz c0 t2 t3 HA H
 by_cases e0:r0.2=0
 ·rw[if_pos e0]
  have e0':(r0.2==0)=true:=beq_iff_eq.2 e0;go_enter Tryz.func136,Tryz.ntmps136
  go_wp2_with fail
  refine H1.out.mono ?_
  rintro _ w1 ⟨rfl,g1⟩;rw[<- HE.out] at g1;go_wp2
  go_ret2
  exact⟨rfl,HP.out.1.trans (g1.mono HP.out.1.size)⟩
 ·rw[if_neg e0]
  have e0':(r0.2==0)=false:=beq_eq_false_iff_ne.2 e0
  by_cases e1:r1.2=0
  ·rw[if_pos e1]
   have e1':(r1.2==0)=true:=beq_iff_eq.2 e1;clear e0 e1;go_enter Tryz.func136,Tryz.ntmps136
   go_wp2_with fail
   refine H1.out.mono ?_
   rintro _ w1 ⟨rfl,g1⟩;rw[<- HE.out] at g1;have c0:=(g1.cell (p:=⟨w.heap.size,0,none⟩) (by show w.heap.size<W.heap.size; rw[HP.out.2.1]; omega)).trans HP.out.2.2.1
   have c2:=(g1.cell (p:=⟨b,o+2,none⟩) HP.out.2.2.2.2.2).trans HP.out.2.2.2.1;have c3:=(g1.cell (p:=⟨b,o+3,none⟩) HP.out.2.2.2.2.2).trans HP.out.2.2.2.2.1;have G1:=hid g1;clear g1 t0 t1;go_wp2_with fail
   refine (H2.out _ G1.out).mono ?_
   rintro _ w2 ⟨rfl,g2⟩;go_wp2
   go_ret2
   exact⟨rfl,HP.out.1.trans ((G1.out.trans (g2.mono G1.out.size)).mono HP.out.1.size)⟩
  ·rw[if_neg e1]
   have e1':(r1.2==0)=false:=beq_eq_false_iff_ne.2 e1;clear e0 e1;go_enter Tryz.func136,Tryz.ntmps136
   go_wp2_with fail
   refine H1.out.mono ?_
   rintro _ w1 ⟨rfl,g1⟩;rw[<- HE.out] at g1;have c0:=(g1.cell (p:=⟨w.heap.size,0,none⟩) (by show w.heap.size<W.heap.size; rw[HP.out.2.1]; omega)).trans HP.out.2.2.1
   have c2:=(g1.cell (p:=⟨b,o+2,none⟩) HP.out.2.2.2.2.2).trans HP.out.2.2.2.1;have c3:=(g1.cell (p:=⟨b,o+3,none⟩) HP.out.2.2.2.2.2).trans HP.out.2.2.2.2.1;have G1:=hid g1;clear g1 t0 t1;go_wp2_with fail
   refine (H2.out _ G1.out).mono ?_
   rintro _ w2 ⟨rfl,g2⟩;go_wp2
   go_ret2
   exact⟨rfl,HP.out.1.trans ((G1.out.trans (g2.mono G1.out.size)).mono HP.out.1.size)⟩
theorem Q1 {ops:Array Oper} {o:Oper} {a:Act} {w:World} {K:Act->World->Prop} {Q:Exit->Act->World->Prop} {E:Prop}
  (hg:o.guard=none) (sl x:Operand) (hop:o.op=Op.call { callee:=Callee.builtin Builtin.append,args:=#[sl,x],argTypes:=#[103,103] })
  (base:Nat) (v:Value) (l:List UInt8) (hs:a.eval sl=v) (hown:Zz w base v l) (ad:Addr) (c:Nat) (N:List UInt8) (hx:a.eval x=.slice (some ad) N.length c) (hnews:∀ j u,(Za N)[j]?=some u->w.cell? (ad.add j)=some u)
  (hN:0<N.length) (hbd:l.length+N.length<=140737488355328) (hbase:base<=w.heap.size)
  (hK:∀ g m cap w',Hid (m=(l++N).length)->base<=g->Zz w' base (.slice (some ⟨g,0,none⟩) m cap) (l++N)->w.grownBy w' v.ownBlock->K (a.put o.dst (.slice (some ⟨g,0,none⟩) m cap)) w'):
  if Region.wanted o (yielded ops a.tmps)=true then Oper.wp Tryz.prog o a w K Q else E:=by
 obtain⟨i0,hi,hz0,hz1,hz2⟩:=info_parts VG;have hw:Region.wanted o (yielded ops a.tmps)=true:=by simp[Region.wanted,hg]
 rw[if_pos hw];obtain⟨v',w',hrun,r1,r2,_⟩:=run_append_own (P:=Tryz.prog) w base 103 o.type 5 i0 (.int .u8 0) 1 1 Tryz.underlying103 hi hz0 hz1 hz2 rfl (by decide) v l.length (Za l) hown ad N.length c (Za N) (by rw[YM,Nat.mul_one]) hnews (YD N) (by unfold maxLen; omega) (by omega) hbase
 unfold Oper.wp;simp[execOp,hop,resolve,invoke,builtin,hs,hx,hrun,Result.andThen]
 rw[<- bytesV_app,<- List.length_append] at r1;obtain⟨g,cap,rfl,hg⟩:=Zb r1 (by simp; omega)
 exact hK g _ cap w' rfl hg r1 r2
theorem Yd (s t:ByteArray) (w:World) (hs:s.size<=1000) (hst:s.size<=t.size) (ht:t.size<=9223372036854775807):
  Calls Tryz.prog 134 #[.string s,.string t] w fun e w'=>e=.returned (.string (str (xors s.data.toList t.data.toList)))∧Below w.heap.size w w':=by
 go_enter Tryz.func134,Tryz.ntmps134
 go_wp2_with fail
 go_loopw [5,6] (fun v i wr=>∃ (ao:Option Addr) (m cap I:Nat),v=.slice ao m cap∧i=.int .i64 I∧I<=s.size∧Hid (Zz wr w.heap.size (.slice ao m cap) (xors (s.data.toList.take I) (t.data.toList.take I)))∧Hid (m=I)∧Below w.heap.size w wr) (fun _ i _=>s.size-(intOf i).toNat)
 case atStart=>exact⟨none,0,0,0,rfl,rfl,Nat.zero_le _,World.ownsRow_nil _ _ _ _,rfl,Below.refl _ _⟩
 case round=>
  obtain⟨ao,m,cap,I,rfl,rfl,hI,HO,HM,hB⟩:=hrel
  by_cases hlt:I<s.size
  ·have hlt':(I:Int)<s.size:=by omega
   have hlt2:(I:Int)<t.size:=by omega
   have bs:=s[I].toNat_lt;have bt:=t[I].toNat_lt;have ux:bits .xor .u8 (s[I].toNat:Int) (t[I].toNat:Int)=((s[I] ^^^ t[I]).toNat:Int):=by rw[u8_xor_nat _ _ bs bt,UInt8.toNat_xor]
   have hsn:=QU s.data.toList t.data.toList I (by rw[ba_len]; omega) (by rw[ba_len]; omega)
   have e1:s.data.toList[I]'(by rw[ba_len]; omega)=s[I]:=rfl
   have e2:t.data.toList[I]'(by rw[ba_len]; omega)=t[I]:=rfl
   rw[e1,e2] at hsn;generalize s[I] ^^^ t[I]=z at ux hsn;have hl:(xors (s.data.toList.take I) (t.data.toList.take I)).length=I:=by simp[xors]; omega
   have HS:=hid (And.intro hsn hl);have hO2:Zz (wr.alloc (.cells #[.int .u8 (z.toNat:Int)] 5)).drew w.heap.size (.slice ao m cap) (xors (s.data.toList.take I) (t.data.toList.take I)):=World.ownsRow.drew (World.ownsRow.alloc HO.out _);have hnew:∀ j u,(Za [z])[j]?=some u->(wr.alloc (.cells #[.int .u8 (z.toNat:Int)] 5)).drew.cell? ((⟨wr.heap.size,0,none⟩:Addr).add j)=some u:=by
    intro j u hj
    match j,hj with
    | 0,hj=>simp[Za] at hj; subst hj; simp[Addr.add]
    | j+1,hj=>simp[Za] at hj
   have H2:=hid (And.intro hO2 (And.intro hnew ((hB.alloc hB.size (.cells #[.int .u8 (z.toNat:Int)] 5)).drew)));clear hsn hl hO2 hnew e1 e2;go_wp2_with fail
   go_region_law (refine Q1 rfl (.tmp 13) (.tmp 21) rfl w.heap.size (.slice ao m cap) (xors (s.data.toList.take I) (t.data.toList.take I)) rfl H2.out.1 ⟨wr.heap.size,0,none⟩ 1 [z] rfl H2.out.2.1 (by simp) (by rw[HS.out.2]; simp; omega) H2.out.2.2.size ?_; intro g4 m4 cap4 w4 hm4 hg4 hown4 hgrow4)
   all_goals go_wp2
   all_goals go_roundw
   all_goals (first | (case rel=>exact⟨some ⟨g4,0,none⟩,m4,cap4,I+1,rfl,by go_num,by omega,by rw[HS.out.1]; exact hown4,by have:=hm4.out; rw[List.length_append,HS.out.2] at this; exact this,H2.out.2.2.grown hgrow4 H2.out.2.2.size (fun k hk=>(World.ownsRow.lt H2.out.1 k hk).1)⟩) | skip)
   all_goals (simp[intOf]; omega)
  ·obtain rfl:I=s.size:=by omega
   have hnl:¬ (s.size:Int)<s.size:=by omega
   have hcv:=Wv HO.out;have hx:xors (s.data.toList.take s.size) (t.data.toList.take s.size)=xors s.data.toList t.data.toList:=by
    unfold xors;rw[List.zipWith_eq_zipWith_take_min (l₁:=s.data.toList) (l₂:=t.data.toList),ba_len,ba_len,Nat.min_eq_left hst]
   rw[hx] at hcv;go_wp2
   go_ret
   exact⟨rfl,hB⟩
end Go.Proofs.YtdnacpbgodooaaaGreatDoor
namespace Go.Proofs.YtdnacpbgodooaaaGreatDoor
open Go.RowKit Go.Lib
theorem Yu (b o c:Nat) (h:Nat->Hd) (A:Ar) (n:Nat) (s:ByteArray) (w:World) (H:Z4 w b o 3 h A):
  Calls Tryz.prog 173 #[.agg #[.slice (some ⟨b,o,none⟩) 3 c],.int .i64 n,.string s] w fun e w'=>e=.returned (.tuple #[])∧w.grownBy w' (some b)∧∃ h',Z4 w' b o 3 h' (both A n s.data.toList):=by
 obtain⟨W,hW⟩:∃ W,W=w.alloc (.cells #[.slice (some ⟨b,o,none⟩) 3 c] 26):=⟨_,rfl⟩;have hB:Below w.heap.size w W:=by rw[hW]; go_grown
 have hz:W.heap.size=w.heap.size+1:=by rw[hW]; simp
 have c0:W.cell? ⟨w.heap.size,0,none⟩=some (.slice (some ⟨b,o,none⟩) 3 c):=by rw[hW]; simp
 have HP:=hid (And.intro hB (And.intro hz (And.intro c0 (And.intro (H.below hB) H.arr.lt))));obtain⟨⟨t0,t1⟩,_⟩:=(H.below hB).arr.three;have C1:=hid (fun wx (g:Below W.heap.size W wx)=>Zy (h 0).x (h 0).p (h 0).c (h 0).y (h 0).q (h 0).d n n s (dev A 0) wx (((H.below hB).arr.below g).dv 0 (by omega)))
 have hb:both A n s.data.toList=(A.set 0 (dvWrite (dev A 0) n n s.data.toList).1).set 1 (dvWrite (dev (A.set 0 (dvWrite (dev A 0) n n s.data.toList).1) 1) n n s.data.toList).1:=by
  rw[both,Vq A 0 1 _ (by decide)]
 rw[hb];generalize dvWrite (dev A 0) n n s.data.toList=r0 at C1;clear hb hB hz H;go_enter Tryz.func173,Tryz.ntmps173
 go_upto_region 1 with fail
 rw[<- hW];clear hW;go_cut [] (fun wx=>W.grownBy wx (some b)∧wx.cell? ⟨w.heap.size,0,none⟩=some (.slice (some ⟨b,o,none⟩) 3 c)∧∃ h',Z4 wx b o 3 h' (A.set 0 r0.1))
 case first=>
  go_region_with (go_at_call 130; refine (C1.out _ ((Below.refl _ W).drew)).mono ?_; rintro _ w4 ⟨x,p,e,y,q,d,rfl,hD,hF,g4⟩; (have g5:=undrew g4); (have Z:=stored (c:=e) (d:=d) HP.out.2.2.2.1 (show 0<3 by omega) g5 hD); (have z0:w4.cell? ⟨b,o,none⟩=some (.slice (h 0).x (h 0).p (h 0).c):=Z.1.1); (have z1:w4.cell? ⟨b,o+1,none⟩=some (.slice (h 0).y (h 0).q (h 0).d):=Z.1.2.1); (have z2:w4.frozen? ⟨b,o,none⟩=false:=Z.1.2.2.1); (have z3:w4.frozen? ⟨b,o+1,none⟩=false:=Z.1.2.2.2); (have zb:=(g5.cell (p:=⟨w.heap.size,0,none⟩) (by show w.heap.size<W.heap.size; rw[HP.out.2.1]; omega)).trans HP.out.2.2.1); (have HZ:=hid (And.intro Z.2 g5)); clear g4 g5 hD hF Z)
  all_goals (go_wp2_with fail; go_meet)
  all_goals exact⟨HZ.out.1.2,Yo HZ.out.1.2 HP.out.2.2.1 (by rw[HP.out.2.1]; omega) (Nat.ne_of_gt HP.out.2.2.2.2),HZ.out.1.1⟩
 case rest=>
  obtain⟨k1,k2,h1,k3⟩:=hcut;have C2:=hid (fun wx (g:Below wc.heap.size wc wx)=>Zy (h1 1).x (h1 1).p (h1 1).c (h1 1).y (h1 1).q (h1 1).d n n s (dev (A.set 0 r0.1) 1) wx ((k3.arr.below g).dv 1 (by omega)))
  obtain⟨_,⟨u0,u1⟩,_⟩:=k3.arr.three;have HQ:=hid (And.intro (show w.heap.size<wc.heap.size by have:=k1.size; rw[HP.out.2.1] at this; omega) (And.intro k2 k3))
  have HG:=hid (ZB (ZC (b:=b) HP.out.1) k1);clear k1 k3 C1 c0 t0 t1;go_wp2_with fail
  go_region_with (go_at_call 130; refine (C2.out _ ((Below.refl _ wc).drew)).mono ?_; rintro _ w4 ⟨x,p,e,y,q,d,rfl,hD,hF,g4⟩; (have g5:=undrew g4); (have Z:=stored (c:=e) (d:=d) HQ.out.2.2 (show 1<3 by omega) g5 hD); (have z0:w4.cell? ⟨b,o+2,none⟩=some (.slice (h1 1).x (h1 1).p (h1 1).c):=Z.1.1); (have z1:w4.cell? ⟨b,o+3,none⟩=some (.slice (h1 1).y (h1 1).q (h1 1).d):=Z.1.2.1); (have z2:w4.frozen? ⟨b,o+2,none⟩=false:=Z.1.2.2.1); (have z3:w4.frozen? ⟨b,o+3,none⟩=false:=Z.1.2.2.2); (have zb:=(g5.cell (p:=⟨w.heap.size,0,none⟩) HQ.out.1).trans HQ.out.2.1); (have HZ:=hid (And.intro Z.2 g5)); clear g4 g5 hD hF Z)
  all_goals go_wp2
  all_goals go_end0
  all_goals exact⟨rfl,ZB HG.out HZ.out.1.2,HZ.out.1.1⟩
end Go.Proofs.YtdnacpbgodooaaaGreatDoor
