import Derived.Test.YtdnacpbgodooaaaGreatDoorCatDecs
import Derived.Test.YtdnacpbgodooaaaGreatDoorArcM
import Derived.Test.YtdnacpbgodooaaaGreatDoorStrB
set_option maxHeartbeats 1600000
set_option maxRecDepth 4000
namespace Go.Proofs.YtdnacpbgodooaaaGreatDoor
open Go.RowKit Go.Lib
def NX (S:ByteArray) (I:Nat) (b:Bool) (x:Int) (I':Nat) (b':Bool):Prop:=(∃ h:I<S.size,x=(S[I]'h).toNat∧I'=I+1∧b'=b)∨(S.size<=I∧x=0∧I'=I∧b'=true)
theorem NX.bd {S:ByteArray} {I I':Nat} {b b':Bool} {x:Int} (h:NX S I b x I' b'):0<=x∧x<=255:=by
 rcases h with ⟨h,rfl,_⟩ | ⟨_,rfl,_⟩
 ·have:=(S[I]'h).toNat_lt; omega
 ·omega
theorem NX.le {S:ByteArray} {I I':Nat} {b b':Bool} {x:Int} (h:NX S I b x I' b') (hI:I<=S.size):I'<=S.size:=by
 rcases h with ⟨h,_,rfl,_⟩ | ⟨_,_,rfl,_⟩ <;> omega
def rst (S:ByteArray) (I:Nat) (b:Bool):Rd:=(S.data.toList.drop I,b)
theorem WN (S:ByteArray) (I:Nat) (b:Bool):(rst S I b).1.length=S.size-I:=by simp[rst]
theorem Q9 (S:ByteArray) (I:Nat) (h:I<S.size):S.data.toList.drop I=S[I]::S.data.toList.drop (I+1):=by
 rw[List.drop_eq_getElem_cons (by simpa using h)]; rfl
theorem NX.num {S:ByteArray} {I I':Nat} {b b':Bool} {x:Int} (h:NX S I b x I' b') (hI:I<=S.size):rnum 1 (rst S I b)=(x,rst S I' b'):=by
 rcases h with ⟨h,rfl,rfl,rfl⟩ | ⟨h,rfl,rfl,rfl⟩
 ·rw[rnum,Je _ _ (by rw[WN]; omega)]
  unfold rst;rw[Q9 S I h];simp[Ql]
 ·rw[rnum,Z2K _ _ (by rw[WN]; omega)]
  simp only[rst,num_nil,List.drop_eq_nil_of_le (show S.data.toList.length<=I' by rw[ba_len]; omega)]
theorem NX.two {S:ByteArray} {I I1 I2:Nat} {b1 b2:Bool} {x y:Int} (h:NX S I false x I1 b1) (h':NX S I1 b1 y I2 b2) (hI:I<=S.size):
  (b2=false->rnum 2 (rst S I false)=(256*x+y,rst S I2 false))∧(b2=true->(rnum 2 (rst S I false)).2.2=true):=by
 rcases h with ⟨g,rfl,rfl,rfl⟩ | ⟨g,rfl,rfl,rfl⟩
 ·rcases h' with ⟨g',rfl,rfl,rfl⟩ | ⟨g',rfl,rfl,rfl⟩
  ·refine⟨fun _=>?_,fun h=>by cases h⟩
   rw[rnum,Je _ _ (by rw[WN]; omega)]
   unfold rst;rw[Q9 S I g,Q9 S (I+1) g'];simp only[List.take_succ_cons,List.take_zero,List.drop_succ_cons,List.drop_zero,num_two]
   rw[Int.mul_comm]
  ·refine⟨fun h=>(by cases h),fun _=>?_⟩
   rw[rnum,Z2K _ _ (by rw[WN]; omega)]
 ·have hb:b2=true:=by
   rcases h' with ⟨_,_,_,h⟩ | ⟨_,_,_,h⟩ <;> exact h
  refine⟨fun h=>(by rw[hb] at h; cases h),fun _=>?_⟩
  rw[rnum,Z2K _ _ (by rw[WN]; omega)]
def OutNx (S:ByteArray) (I:Nat) (b:Bool) (pi pb:Nat) (w:World) (e:Ending) (w':World):Prop:=∃ x I' b',e=.returned (.int .i64 x)∧NX S I b x I' b'∧Own w' pi 3 [.int .i64 (I':Nat)]∧Own w' pb 4 [.bool b']∧Chg (fun k=>k=pi∨k=pb) w w'
theorem Z6r (pi ps pb:Nat) (S:ByteArray) (I:Nat) (b:Bool) (w:World) (hi:Own w pi 3 [.int .i64 I]) (hs:Own w ps 9 [.string S]) (hb:Own w pb 4 [.bool b]) (hne:pi≠ps) (hne2:pi≠pb) (hS:S.size<=maxLen):
  Calls Tryz.prog 172 #[.pointer (some ⟨pi,0,none⟩),.pointer (some ⟨ps,0,none⟩),.pointer (some ⟨pb,0,none⟩)] w fun e w'=>OutNx S I b pi pb w e w':=by
 have c0:=hi.cell (i:=0) rfl;have c1:=hs.cell (i:=0) rfl;have c2:=hb.cell (i:=0) rfl;have f0:=hi.free 0;have f2:=hb.free 0;unfold maxLen at hS
 by_cases h:I<S.size
 ·have h1:¬ (S.size:Int)<=I:=by omega
  have HH:=hid (And.intro (hi.set (i:=0) (by simp) (.int .i64 ((I:Int)+1))) (hb.other (p:=⟨pi,0,none⟩) (by show pb≠pi; omega) (.int .i64 ((I:Int)+1))))
  have k0:=World.cell?_setCell_same w ⟨pi,0,none⟩ (.int .i64 ((I:Int)+1)) c0
  have k1:(w.setCell ⟨pi,0,none⟩ (.int .i64 ((I:Int)+1))).cell? ⟨ps,0,none⟩=some (.string S):=(hs.other (p:=⟨pi,0,none⟩) (by show ps≠pi; omega) _).cell rfl
  have CH:=hid (Zo w pi 0 (.int .i64 ((I:Int)+1)));have HX:=hid (show NX S I b ((S[I]'h).toNat:Int) (I+1) b from .inl ⟨h,rfl,rfl,rfl⟩);have u1:wrap64 ((S[I]'h).toNat:Int)=((S[I]'h).toNat:Int):=wrap_byte _;have h3:(I:Int)<S.size:=by omega
  clear hi hs hb;go_enter Tryz.func172,Tryz.ntmps172
  go_wp2
  go_ret
  exact⟨_,I+1,b,rfl,HX.out,HH.out.1,HH.out.2,⟨CH.out.os,CH.out.tape,CH.out.output,CH.out.size,fun k hk hp=>CH.out.block k hk (fun e=>hp (.inl e))⟩⟩
 ·have h1:(S.size:Int)<=I:=by omega
  have HH:=hid (And.intro (hi.other (p:=⟨pb,0,none⟩) (by show pi≠pb; omega) (.bool true)) (hb.set (i:=0) (by simp) (.bool true)))
  have CH:=hid (Zo w pb 0 (.bool true));have HX:=hid (show NX S I b 0 I true from .inr ⟨by omega,rfl,rfl,rfl⟩)
  clear hi hs hb;go_enter Tryz.func172,Tryz.ntmps172
  go_wp2
  go_ret
  exact⟨0,I,true,rfl,HX.out,HH.out.1,HH.out.2,⟨CH.out.os,CH.out.tape,CH.out.output,CH.out.size,fun k hk hp=>CH.out.block k hk (fun e=>hp (.inr e))⟩⟩
end Go.Proofs.YtdnacpbgodooaaaGreatDoor
namespace Go.Proofs.YtdnacpbgodooaaaGreatDoor
open Go.RowKit Go.Lib
theorem NX.mono {S:ByteArray} {I I':Nat} {b b':Bool} {x:Int} (h:NX S I b x I' b') (hb:b'=false):b=false:=by
 rcases h with ⟨_,_,_,rfl⟩ | ⟨_,_,_,rfl⟩
 ·exact hb
 ·cases hb
theorem Z1K (r:Rd):(rent1 r).2=(e4 r).2:=by simp only[rent1]
theorem Z5c (S:ByteArray) (I I0 x0:Nat) (b0:Bool) (h:NX S I false x0 I0 b0) (hI:I<=S.size) (hs:S.size<I0+x0):(rent1 (rst S I false)).2.2=true:=by
 have hl:=h.le hI;have q:(e1 (rst S I false)).2.2=true:=by
  rw[e1,h.num hI,Int.toNat_natCast,Z2K _ _ (by rw[WN]; omega)]
 have g:=Ui _ (QD _ (Z2i _ q));rw[Z1K];exact g
theorem Z5d (S:ByteArray) (I I0 x0 I1 I2 I3 I4:Nat) (b0 b1 b2 b3 b4:Bool) (y1 y2 y3 y4:Int) (h:NX S I false x0 I0 b0) (hI:I<=S.size) (hs:I0+x0<=S.size) (h1:NX S (I0+x0) b0 y1 I1 b1) (h2:NX S I1 b1 y2 I2 b2) (h3:NX S I2 b2 y3 I3 b3) (h4:NX S I3 b3 y4 I4 b4):
  (b4=false->rent1 (rst S I false)=(⟨S.extract I0 (I0+x0),y1,256*y2+y3,y4⟩,rst S I4 false))∧(b4=true->(rent1 (rst S I false)).2.2=true):=by
 have q1:e1 (rst S I false)=((S.data.toList.drop I0).take x0,rst S (I0+x0) b0):=by
  rw[e1,h.num hI,Int.toNat_natCast,Je _ _ (by rw[WN]; omega)]
  simp[rst,List.drop_drop]
 have l1:=h1.le hs;have l2:=h2.le l1;have l3:=h3.le l2;have q2:e2 (rst S I false)=(y1,rst S I1 b1):=by
  have g:=h1.num hs;unfold e2;rw[q1];exact g
 rw[Z1K];have R:rent1 (rst S I false)=(⟨str (e1 (rst S I false)).1,(e2 (rst S I false)).1,(e3 (rst S I false)).1,(e4 (rst S I false)).1⟩,(e4 (rst S I false)).2):=rfl;cases hb1:b1 with
 | true=>
  have s3:(e3 (rst S I false)).2.2=true:=QD _ (by rw[q2,hb1]; rfl)
  have s4:=Ui _ s3;refine⟨fun hb=>?_,fun _=>s4⟩
  have:=h2.mono (h3.mono (h4.mono hb))
  rw[hb1] at this;cases this
 | false=>
  rw[hb1] at h2;have q3:=h2.two h3 l1;cases hb3:b3 with
  | true=>
   have s3:(e3 (rst S I false)).2.2=true:=by
    have g:=q3.2 hb3;unfold e3;rw[q2,hb1];exact g
   have s4:=Ui _ s3;refine⟨fun hb=>?_,fun _=>s4⟩
   have:=h4.mono hb
   rw[hb3] at this;cases this
  | false=>
   have e3':e3 (rst S I false)=(256*y2+y3,rst S I3 false):=by
    have g:=q3.1 hb3;unfold e3;rw[q2,hb1];exact g
   rw[hb3] at h4;have q4:e4 (rst S I false)=(y4,rst S I4 b4):=by
    have g:=h4.num l3;unfold e4;rw[e3'];exact g
   refine⟨fun hb=>?_,fun hb=>?_⟩
   ·rw[R,q1,q2,e3',q4,hb,ext_str]
    have g:cut S.data.toList I0 (I0+x0)=(S.data.toList.drop I0).take x0:=by rw[cut,List.drop_take,Nat.add_sub_cancel_left]
    rw[g]
   ·rw[q4,hb]; rfl
structure RfI (w0:World) (S:ByteArray) (I:Nat) (b:Bool) (v1 v2:Value) (L:List Bk) (E:List En) (w:World):Prop where
 ps:Own w w0.heap.size 9 [.string S]
 res:Own w (w0.heap.size+1) 83 [.slice none 0 0,.slice none 0 0]
 i:Own w (w0.heap.size+1+1) 3 [.int .i64 I]
 sh:Own w (w0.heap.size+1+1+1) 4 [.bool b]
 box:Own w (w0.heap.size+1+1+1+1) 83 [v1,v2]
 K:W0 w (w0.heap.size+5) v1 L
 N:Xv w (w0.heap.size+5) v2 E
 below:Below w0.heap.size w0 w
 size:w0.heap.size+5<=w.heap.size
section
variable {w0 w w':World} {S:ByteArray} {I I':Nat} {b b':Bool} {v1 v2 v':Value} {L L':List Bk} {E E':List En}
theorem RfI.next (h:RfI w0 S I b v1 v2 L E w) (hi:Own w' (w0.heap.size+1+1) 3 [.int .i64 (I':Nat)]) (hb:Own w' (w0.heap.size+1+1+1) 4 [.bool b']) (hc:Chg (fun k=>k=w0.heap.size+1+1∨k=w0.heap.size+1+1+1) w w'):RfI w0 S I' b' v1 v2 L E w':=
 ⟨hc.own h.ps (by omega),hc.own h.res (by omega),hi,hb,hc.own h.box (by omega),hc.row h.K (fun g hg=>by omega),hc.row h.N (fun g hg=>by omega),h.below.trans (hc.below (by have:=h.size; omega) (fun k hk=>by omega)),Nat.le_trans h.size hc.size⟩
theorem RfI.to (h:RfI w0 S I b v1 v2 L E w) (g:Below w.heap.size w w'):RfI w0 S I b v1 v2 L E w':=h.next (h.i.below' g) (h.sh.below' g) (chg_below _ g)
theorem RfI.drew (h:RfI w0 S I b v1 v2 L E w):RfI w0 S I b v1 v2 L E w.drew:=⟨h.ps,h.res,h.i,h.sh,h.box,h.K,h.N,h.below.drew,h.size⟩
theorem RfI.setI (h:RfI w0 S I b v1 v2 L E w) (x:Int) (hx:x=(I':Nat)):RfI w0 S I' b v1 v2 L E (w.setCell ⟨w0.heap.size+1+1,0,none⟩ (.int .i64 x)):=by
 subst hx;have hc:=Zo w (w0.heap.size+1+1) 0 (.int .i64 (I':Nat));exact h.next (h.i.set (i:=0) (by simp) _) (hc.own h.sh (by omega)) ⟨hc.os,hc.tape,hc.output,hc.size,fun k hk hp=>hc.block k hk (fun e=>hp (.inl e))⟩
theorem RfI.setB (h:RfI w0 S I b v1 v2 L E w):RfI w0 S I true v1 v2 L E (w.setCell ⟨w0.heap.size+1+1+1,0,none⟩ (.bool true)):=by
 have hc:=Zo w (w0.heap.size+1+1+1) 0 (.bool true);exact h.next (hc.own h.i (by omega)) (h.sh.set (i:=0) (by simp) _) ⟨hc.os,hc.tape,hc.output,hc.size,fun k hk hp=>hc.block k hk (fun e=>hp (.inr e))⟩
theorem RfI.far (h:RfI w0 S I b v1 v2 L E w) {p o:Nat} (hp:w0.heap.size+5<=p) (v:Value) (hk:∀ g,v1.ownBlock=some g->g≠p) (he:∀ g,v2.ownBlock=some g->g≠p):RfI w0 S I b v1 v2 L E (w.setCell ⟨p,o,none⟩ v):=by
 have hc:=Zo w p o v;refine⟨hc.own h.ps (by omega),hc.own h.res (by omega),hc.own h.i (by omega),hc.own h.sh (by omega),hc.own h.box (by omega),?_,?_,h.below.setCell (by show w0.heap.size<=p; omega) v,Nat.le_trans h.size hc.size⟩
 ·refine⟨h.K.1,?_⟩
  rcases h.K.2 with h0 | ⟨g,cap,cur,hv,hg,hh,h1,h2,h3,h4⟩
  ·exact .inl h0
  ·exact .inr ⟨g,cap,cur,hv,hg,(hc.block g (lt_of_block hh) (hk g (by rw[hv]; rfl))).trans hh,h1,h2,h3,h4⟩
 ·refine⟨h.N.1,?_⟩
  rcases h.N.2 with h0 | ⟨g,cap,cur,hv,hg,hh,h1,h2,h3,h4⟩
  ·exact .inl h0
  ·exact .inr ⟨g,cap,cur,hv,hg,(hc.block g (lt_of_block hh) (he g (by rw[hv]; rfl))).trans hh,h1,h2,h3,h4⟩
theorem UB (h:RfI w0 S I b v1 v2 L E w):∀ g,v1.ownBlock=some g->v2.ownBlock≠some g:=by
 intro g e1 e2
 rcases h.K.2 with ⟨rfl,_⟩ | ⟨g1,_,_,rfl,_,hh,_⟩
 ·cases e1
 ·rcases h.N.2 with ⟨rfl,_⟩ | ⟨g2,_,_,rfl,_,hh2,_⟩
  ·cases e2
  ·cases e1
   cases e2
   rw[hh] at hh2
   simp at hh2
theorem RfI.app0 (h:RfI w0 S I b v1 v2 L E w) (hg:w.grownBy w' v1.ownBlock) (ho:W0 w' (w0.heap.size+5) v' L'):Own w' (w0.heap.size+1+1+1+1) 83 [v1,v2]∧RfI w0 S I b v' v2 L' E (w'.setCell ⟨w0.heap.size+1+1+1+1,0,none⟩ v'):=by
 have hc:=Yk hg;have hne:∀ k,some k=v1.ownBlock->w0.heap.size+5<=k:=fun k hk=>(World.ownsRow.lt h.K k hk.symm).1
 have hs:=Zo w' (w0.heap.size+1+1+1+1) 0 v';have hN:Xv w' (w0.heap.size+5) v2 E:=by
  refine⟨h.N.1,?_⟩
  rcases h.N.2 with h0 | ⟨g,cap,cur,hv,hgg,hh,h1,h2,h3,h4⟩
  ·exact .inl h0
  ·exact .inr ⟨g,cap,cur,hv,hgg,(hc.block g (lt_of_block hh) (fun e=>UB h g e.symm (by rw[hv]; rfl))).trans hh,h1,h2,h3,h4⟩
 have hb:=hc.own h.box (fun e=>by have:=hne _ e; omega)
 refine⟨hb,hs.own (hc.own h.ps (fun e=>by have:=hne _ e; omega)) (by omega),hs.own (hc.own h.res (fun e=>by have:=hne _ e; omega)) (by omega),hs.own (hc.own h.i (fun e=>by have:=hne _ e; omega)) (by omega),hs.own (hc.own h.sh (fun e=>by have:=hne _ e; omega)) (by omega),hb.set (i:=0) (by simp) v',hs.row ho (fun g hg=>by omega),hs.row hN (fun g hg=>by omega),?_,Nat.le_trans h.size (Nat.le_trans hc.size hs.size)⟩
 exact (h.below.trans (hc.below (by have:=h.size; omega) (fun k hk e=>by have:=hne _ e; omega))).setCell (by show w0.heap.size<=w0.heap.size+1+1+1+1; omega) v'
theorem RfI.app1 (h:RfI w0 S I b v1 v2 L E w) (hg:w.grownBy w' v2.ownBlock) (ho:Xv w' (w0.heap.size+5) v' E'):Own w' (w0.heap.size+1+1+1+1) 83 [v1,v2]∧RfI w0 S I b v1 v' L E' (w'.setCell ⟨w0.heap.size+1+1+1+1,1,none⟩ v'):=by
 have hc:=Yk hg;have hne:∀ k,some k=v2.ownBlock->w0.heap.size+5<=k:=fun k hk=>(World.ownsRow.lt h.N k hk.symm).1
 have hs:=Zo w' (w0.heap.size+1+1+1+1) 1 v';have hK:W0 w' (w0.heap.size+5) v1 L:=by
  refine⟨h.K.1,?_⟩
  rcases h.K.2 with h0 | ⟨g,cap,cur,hv,hgg,hh,h1,h2,h3,h4⟩
  ·exact .inl h0
  ·exact .inr ⟨g,cap,cur,hv,hgg,(hc.block g (lt_of_block hh) (fun e=>UB h g (by rw[hv]; rfl) e.symm)).trans hh,h1,h2,h3,h4⟩
 have hb:=hc.own h.box (fun e=>by have:=hne _ e; omega)
 refine⟨hb,hs.own (hc.own h.ps (fun e=>by have:=hne _ e; omega)) (by omega),hs.own (hc.own h.res (fun e=>by have:=hne _ e; omega)) (by omega),hs.own (hc.own h.i (fun e=>by have:=hne _ e; omega)) (by omega),hs.own (hc.own h.sh (fun e=>by have:=hne _ e; omega)) (by omega),hb.set (i:=1) (by simp) v',hs.row hK (fun g hg=>by omega),hs.row ho (fun g hg=>by omega),?_,Nat.le_trans h.size (Nat.le_trans hc.size hs.size)⟩
 exact (h.below.trans (hc.below (by have:=h.size; omega) (fun k hk e=>by have:=hne _ e; omega))).setCell (by show w0.heap.size<=w0.heap.size+1+1+1+1; omega) v'
end
structure RB (S:ByteArray) (q:Rd) (N k I A:Nat) (b:Bool) (L:List Bk):Prop where
 len:L.length=k
 le:I<=S.size
 yes:b=false->rblk k q=(L,rst S I false)∧(A:Int)=behB L
 no:b=true->(rblk N q).2.2=true
theorem RB.step {S:ByteArray} {q:Rd} {N k I A I1 I2 M:Nat} {b1 b2:Bool} {L:List Bk} {x y:Int} (h:RB S q N k I A false L) (hk:k<N) (h1:NX S I false x I1 b1) (h2:NX S I1 b1 y I2 b2) (hM:256*x+y=(M:Int)):RB S q N (k+1) I2 (A+secs M) b2 (L++[⟨A,M⟩]):=by
 obtain⟨y1,y2⟩:=h.yes rfl;have t:=h1.two h2 h.le;have e:rblk (k+1) q=stB L (rst S I false):=by rw[JF,y1]
 refine⟨by rw[List.length_append,h.len]; rfl,h2.le (h1.le h.le),fun hb=>?_,fun hb=>?_⟩
 ·have t1:=t.1 hb
  rw[e,stB,t1,hM,<- y2];refine⟨rfl,?_⟩
  simp[behB]
 ·have t1:=t.2 hb
  refine VE (k+1) N q ?_ hk
  rw[e];exact t1
structure RE (S:ByteArray) (q:Rd) (N j I:Nat) (b0 b:Bool) (F:Prop) (E:List En):Prop where
 len:E.length=j
 le:I<=S.size
 st:b0=true->b=true
 yes:b=false->rent j q=(E,rst S I false)
 no:b=true->F
theorem RE.short {S:ByteArray} {q:Rd} {N j I I0 x0:Nat} {b0 b1:Bool} {F:Prop} {E:List En} (h:RE S q N j I b0 false F E) (hj:j<N) (hF:(rent N q).2.2=true->F) (h1:NX S I false x0 I0 b1) (hs:S.size<I0+x0):F:=by
 refine hF (Ya (j+1) N q ?_ hj)
 have g:=Z5c S I I0 x0 b1 h1 h.le hs;rw[Y9,h.yes rfl];dsimp only;generalize rent1 (rst S I false)=X at g ⊢;exact g
theorem RE.step {S:ByteArray} {q:Rd} {N j I I0 x0 I1 I2 I3 I4:Nat} {b0 b1 b2 b3 b4 b5:Bool} {F:Prop} {E:List En} {y1 y2 y3 y4 A:Int} (h:RE S q N j I b0 false F E) (hj:j<N) (hF:(rent N q).2.2=true->F) (h0:NX S I false x0 I0 b1) (hs:I0+x0<=S.size) (h1:NX S (I0+x0) b1 y1 I1 b2) (h2:NX S I1 b2 y2 I2 b3) (h3:NX S I2 b3 y3 I3 b4) (h4:NX S I3 b4 y4 I4 b5) (hA:256*y2+y3=A):RE S q N (j+1) I4 b0 b5 F (E++[⟨S.extract I0 (I0+x0),y1,A,y4⟩]):=by
 have t:=Z5d S I I0 x0 I1 I2 I3 I4 b1 b2 b3 b4 b5 y1 y2 y3 y4 h0 h.le hs h1 h2 h3 h4;rw[hA] at t;refine⟨by rw[List.length_append,h.len]; rfl,h4.le (h3.le (h2.le (h1.le hs))),fun e=>?_,fun hb=>?_,fun hb=>hF (Ya (j+1) N q ?_ hj)⟩
 ·have:=h.st e
  cases this
 ·have t1:=t.1 hb
  rw[Y9,h.yes rfl];dsimp only;generalize rent1 (rst S I false)=X at t1 ⊢;rw[t1]
 ·have t1:=t.2 hb
  rw[Y9,h.yes rfl];dsimp only;generalize rent1 (rst S I false)=X at t1 ⊢;exact t1
theorem Z2E (S:ByteArray) (I J:Nat) (hIJ:I<=J) (h:J<S.size) (hz:zeros ((S.data.toList.drop I).take (J-I))=true) (h0:S[J]=0):zeros ((S.data.toList.drop I).take (J+1-I))=true:=by
 rw[show J+1-I=(J-I)+1 by omega,List.take_succ_eq_append_getElem (by simp; omega)]
 unfold zeros at hz ⊢;rw[List.all_append,hz];have e:(S.data.toList.drop I)[J-I]'(by simp; omega)=S[J]:=by
  rw[List.getElem_drop]
  have:I+(J-I)=J:=by omega
  simp only[this]
  rfl
 simp[e,h0]
theorem Z3I (S:ByteArray) (I J:Nat) (hIJ:I<=J) (h:J<S.size) (h0:S[J]≠0):zeros (S.data.toList.drop I)=false:=by
 unfold zeros;rw[Bool.eq_false_iff];intro hall;rw[List.all_eq_true] at hall;have hm:S[J]∈S.data.toList.drop I:=by
  rw[List.mem_iff_getElem];refine⟨J-I,by simp; omega,?_⟩
  rw[List.getElem_drop]
  have:I+(J-I)=J:=by omega
  simp only[this]
  rfl
 have:=hall _ hm
 exact h0 (by simpa using this)
end Go.Proofs.YtdnacpbgodooaaaGreatDoor
namespace Go.Proofs.YtdnacpbgodooaaaGreatDoor
open Go.RowKit Go.Lib
theorem Z31 (S:ByteArray) (w:World) (hS:S.size<=281474976710656):
  Calls Tryz.prog 122 #[.string S] w fun e w'=>Z5U w (decC S.data.toList) e w':=by
 obtain⟨W1,hW1⟩:∃ W1,W1=w.alloc (.cells #[.string S] 9):=⟨_,rfl⟩;obtain⟨W2,hW2⟩:∃ W2,W2=W1.alloc (.cells #[.slice none 0 0,.slice none 0 0] 83):=⟨_,rfl⟩;obtain⟨W3,hW3⟩:∃ W3,W3=W2.alloc (.cells #[.int .i64 0] 3):=⟨_,rfl⟩;obtain⟨W4,hW4⟩:∃ W4,W4=W3.alloc (.cells #[.bool false] 4):=⟨_,rfl⟩;obtain⟨W,hW⟩:∃ W,W=W4.alloc (.cells #[.slice none 0 0,.slice none 0 0] 83):=⟨_,rfl⟩;have z1:W1.heap.size=w.heap.size+1:=by rw[hW1]; simp
 have z2:W2.heap.size=w.heap.size+1+1:=by rw[hW2]; simp[z1]
 have z3:W3.heap.size=w.heap.size+1+1+1:=by rw[hW3]; simp[z2]
 have z4:W4.heap.size=w.heap.size+1+1+1+1:=by rw[hW4]; simp[z3]
 have z5:W.heap.size=w.heap.size+5:=by rw[hW]; simp[z4]
 have J0:RfI w S 0 false (.slice none 0 0) (.slice none 0 0) [] [] W:=by
  have k1:=Own.made w 9 [.string S];have k2:=Own.made W1 83 [.slice none 0 0,.slice none 0 0];have k3:=Own.made W2 3 [.int .i64 0];have k4:=Own.made W3 4 [.bool false];have k5:=Own.made W4 83 [.slice none 0 0,.slice none 0 0];rw[z1] at k2;rw[z2] at k3;rw[z3] at k4;rw[z4] at k5;have j1:Own W1 w.heap.size 9 [.string S]:=by rw[hW1]; exact k1
  have j2:Own W2 (w.heap.size+1) 83 [.slice none 0 0,.slice none 0 0]:=by rw[hW2]; exact k2
  have j3:Own W3 (w.heap.size+1+1) 3 [.int .i64 0]:=by rw[hW3]; exact k3
  have j4:Own W4 (w.heap.size+1+1+1) 4 [.bool false]:=by rw[hW4]; exact k4
  have i2:Own W2 w.heap.size 9 [.string S]:=by rw[hW2]; exact j1.alloc _
  have i3:Own W3 w.heap.size 9 [.string S]:=by rw[hW3]; exact i2.alloc _
  have i4:Own W4 w.heap.size 9 [.string S]:=by rw[hW4]; exact i3.alloc _
  have q3:Own W3 (w.heap.size+1) 83 [.slice none 0 0,.slice none 0 0]:=by rw[hW3]; exact j2.alloc _
  have q4:Own W4 (w.heap.size+1) 83 [.slice none 0 0,.slice none 0 0]:=by rw[hW4]; exact q3.alloc _
  have o4:Own W4 (w.heap.size+1+1) 3 [.int .i64 0]:=by rw[hW4]; exact j3.alloc _
  refine⟨?_,?_,?_,?_,?_,ownsK_nil _ _,ownsE_nil _ _,?_,by omega⟩
  ·rw[hW]; exact i4.alloc _
  ·rw[hW]; exact q4.alloc _
  ·rw[hW]; exact o4.alloc _
  ·rw[hW]; exact j4.alloc _
  ·rw[hW]; exact k5
  ·rw[hW,hW4,hW3,hW2,hW1]; go_grown
 have HNX:=hid (fun (I:Nat) (b:Bool) (v1 v2:Value) (L:List Bk) (E:List En) (wx:World) (h:RfI w S I b v1 v2 L E wx)=>Z6r (w.heap.size+1+1) w.heap.size (w.heap.size+1+1+1) S I b wx h.i h.ps h.sh (by omega) (by omega) (by unfold maxLen; omega))
 have C0:=HNX.out 0 false _ _ _ _ W J0;have HJ0:=hid J0;rw[hW,hW4,hW3,hW2,hW1] at C0;have HC0:=hid C0;have HW:=hid (And.intro hW (And.intro hW4 (And.intro hW3 (And.intro hW2 hW1))));clear C0 J0 hW hW4 hW3 hW2 hW1 z1 z2 z3 z4 z5;go_enter Tryz.func122,Tryz.ntmps122
 go_wp2_with fail
 refine HC0.out.mono ?_
 rintro _ w1 ⟨x0,I0,b0,rfl,n0,i0,s0,c0⟩;rw[<- HW.out.2.2.2.2,<- HW.out.2.2.2.1,<- HW.out.2.2.1,<- HW.out.2.1,<- HW.out.1] at c0;have J1:=hid (HJ0.out.next i0 s0 c0);have bd0:=n0.bd;obtain⟨N,rfl⟩:∃ N:Nat,x0=N:=⟨x0.toNat,by omega⟩
 have hN:N<=255:=by omega
 obtain⟨r0,hr0⟩:∃ r0:Rd,r0=(S.data.toList,false):=⟨_,rfl⟩;have e0:rnum 1 r0=((N:Int),rst S I0 b0):=by rw[hr0]; exact n0.num (Nat.zero_le _)
 have EC1:=hid (show c1 r0=rblk N (rst S I0 b0) by rw[c1,e0,Int.toNat_natCast])
 have R0:Hid (RB S (rst S I0 b0) N 0 I0 8 b0 []):=by
  refine⟨rfl,n0.le (Nat.zero_le _),fun hb=>⟨by rw[hb]; rfl,rfl⟩,fun hb=>VE 0 N _ ?_ (Nat.zero_le _)⟩
  rw[hb]; rfl
 have HR0:=hid hr0;clear HC0 HJ0 HW i0 s0 c0 n0 bd0 e0 hr0;obtain⟨q,hq⟩:∃ q,rst S I0 b0=q:=⟨_,rfl⟩;rw[hq] at EC1 R0;clear hq;go_wp2_with fail
 go_loopw [8,10] (fun t i wr=>∃ (k I m cap A:Nat) (b:Bool) (ao:Option Addr) (L:List Bk),k<=N∧i=.int .i64 k∧t=.int .i64 A∧A<=8+2731*k∧Hid (RfI w S I b (.slice ao m cap) (.slice none 0 0) L [] wr)∧Hid (RB S q N k I A b L)) (fun _ i _=>N-(RowKit.intOf i).toNat)
 case atStart=>exact⟨0,I0,0,0,8,b0,none,[],Nat.zero_le _,rfl,rfl,by omega,J1,R0⟩
 case round=>
  obtain⟨k,I,m,cap,A,b,ao,L,hk,rfl,rfl,hA,HI,HR⟩:=hrel;clear J1 R0;have sh:=HI.out.sh.cell (i:=0) rfl;go_upto_region 8 with fail
  go_cut [26] (fun s26 wx=>s26=.bool (decide (k<N)&&!b)∧wx=wr)
  case first=>
   by_cases hlt:k<N
   ·have hlt':(k:Int)<N:=by omega
    go_wp2
    go_meet
    exact⟨by simp[hlt],rfl⟩
   ·have hlt':¬ (k:Int)<N:=by omega
    go_wp2
    go_meet
    exact⟨by simp[hlt],rfl⟩
  case rest=>
   obtain⟨rfl,rfl⟩:=hcut;clear sh;cases hc:(decide (k<N)&&!b) with
   | true=>
    have hlt:k<N:=by simp only[Bool.and_eq_true,decide_eq_true_eq] at hc; exact hc.1
    have hb:b=false:=by simp only[Bool.and_eq_true,Bool.not_eq_true'] at hc; exact hc.2
    subst hb;clear hc;have C1:=hid (HNX.out I false _ _ _ _ wc HI.out);go_wp2_with fail
    refine C1.out.mono ?_
    rintro _ w2 ⟨x1,I1,b1,rfl,n1,i1,s1,c1'⟩;have J1:=hid (HI.out.next i1 s1 c1');have d1:=n1.bd;have N1:=hid n1;have C2:=hid (HNX.out I1 b1 _ _ _ _ w2 J1.out);clear n1 i1 s1 c1' C1;obtain⟨d10,d11⟩:=d1;go_wp2_with fail
    refine C2.out.mono ?_
    rintro _ w3 ⟨x2,I2,b2,rfl,n2,i2,s2,c2'⟩;have J2:=hid (J1.out.next i2 s2 c2');have d2:=n2.bd;obtain⟨M,hM⟩:∃ M:Nat,256*x1+x2=(M:Int):=⟨(256*x1+x2).toNat,by omega⟩
    have hM2:M<=65535:=by omega
    have R2:=hid (HR.out.step hlt N1.out n2 hM);have CS:=hid (fun wx=>ZI M wx (by omega))
    have hsec:secs M<=2731:=by unfold secs; omega
    have J3:=hid (J2.out.to ((Below.refl _ w3).alloc (Nat.le_refl _) (.cells #[.int .i64 A,.int .i64 M] 100)));have N3:=Qm w3 A M 100;have b0':=J2.out.box.cell (i:=0) rfl;have hl:=HR.out.len;clear n2 i2 s2 c2' C2 HI J1 N1 HR;obtain⟨d20,d21⟩:=d2;have hAz:(A:Int)<=1000000:=by omega
    go_upto_region 12 with fail
    go_upto_region 13 with (at_builtin; (refine XZ _ rfl (.tmp 37) (.tmp 41) rfl (w.heap.size+5) _ L rfl J3.out.K ⟨w3.heap.size,0,none⟩ 1 ⟨A,M⟩ rfl N3 (by omega) J3.out.size ?_; intro g5 m5 cap5 w5 hm5 hg5 hown5 hgrow5; have A5:=J3.out.app0 hgrow5 hown5; (have y0:=A5.1.cell (i:=0) rfl); (have y1:=A5.1.free 0); have J5:=hid A5.2; clear hown5 hgrow5 A5))
    clear b0' N3 J3 J2 y0 y1;go_wp2_with (go_at_call 66; refine (CS.out _).mono ?_; rintro _ w9 ⟨rfl,h9⟩; (have h8:=h9.symm); subst h8)
    go_roundw
    case rel=>exact⟨k+1,I2,m5,cap5,A+secs M,b2,some ⟨g5,0,none⟩,L++[⟨A,M⟩],by omega,by go_num,by go_num,by omega,J5,R2⟩
    case measure=>simp[RowKit.intOf]; omega
   | false=>
    have D1:Hid ((b=false->c1 r0=(L,rst S I false))∧(b=true->(c1 r0).2.2=true)):=by
     refine⟨fun hb=>?_,fun hb=>by rw[EC1.out]; exact HR.out.no hb⟩
     have hkN:k=N:=by
      rw[hb] at hc
      simp at hc
      omega
     rw[EC1.out,<- hkN];exact (HR.out.yes hb).1
    have hle:=HR.out.le;have hll:=HR.out.len;clear hc EC1 HR;have C1:=hid (HNX.out I b _ _ _ _ wc HI.out);go_wp2_with fail
    refine C1.out.mono ?_
    rintro _ w2 ⟨x1,I1,b1,rfl,n1,i1,s1,c1'⟩;have J1:=hid (HI.out.next i1 s1 c1');have d1:=n1.bd;obtain⟨M,rfl⟩:∃ M:Nat,x1=M:=⟨x1.toNat,by omega⟩
    have hM:M<=255:=by omega
    have D2:Hid ((b1=false->(c1 r0).1=L∧c3 r0=rent M (rst S I1 false))∧(b1=true->(c3 r0).2.2=true)):=by
     refine⟨fun hb=>?_,fun hb=>?_⟩
     ·have hb0:=n1.mono hb
      have e1:=D1.out.1 hb0;have e2:=n1.num hle;rw[hb0,hb] at e2;have e3:c2 r0=((M:Int),rst S I1 false):=by
       unfold c2;rw[e1];exact e2
      exact⟨by rw[e1],by rw[c3,e3,Int.toNat_natCast]⟩
     ·cases hb0:b with
      | true=>exact Z5z _ (D1.out.2 hb0)
      | false=>
       have e1:=D1.out.1 hb0;have e2:=n1.num hle;rw[hb0,hb] at e2;have e3:c2 r0=((M:Int),rst S I1 true):=by
        unfold c2;rw[e1];exact e2
       refine Z5y _ ?_
       rw[e3]; rfl
    have R1:Hid (RE S (rst S I1 false) M 0 I1 b1 b1 ((c3 r0).2.2=true) []):=⟨rfl,n1.le hle,id,fun _=>rfl,D2.out.2⟩
    clear n1 i1 s1 c1' C1 HI d1 D1;go_wp2_with fail
    go_loopw [12] (fun i wr=>∃ (j I m2 cap2:Nat) (b:Bool) (ao2:Option Addr) (E:List En),j<=M∧i=.int .i64 j∧Hid (RfI w S I b (.slice ao m cap) (.slice ao2 m2 cap2) L E wr)∧Hid (RE S (rst S I1 false) M j I b1 b ((c3 r0).2.2=true) E)) (fun i _=>M-(RowKit.intOf i).toNat)
    case atStart=>exact⟨0,I1,0,0,b1,none,[],Nat.zero_le _,rfl,J1,R1⟩
    case round=>
     obtain⟨j,I2,m2,cap2,b2,ao2,E,hj,rfl,HI,HR⟩:=hrel;clear J1 R1;have sh:=HI.out.sh.cell (i:=0) rfl;go_upto_region 16 with fail
     go_cut [56] (fun s56 wx=>s56=.bool (decide (j<M)&&!b2)∧wx=wr)
     case first=>
      by_cases hlt:j<M
      ·have hlt':(j:Int)<M:=by omega
       go_wp2
       go_meet
       exact⟨by simp[hlt],rfl⟩
      ·have hlt':¬ (j:Int)<M:=by omega
       go_wp2
       go_meet
       exact⟨by simp[hlt],rfl⟩
     case rest=>
      obtain⟨rfl,rfl⟩:=hcut;clear sh;cases hc:(decide (j<M)&&!b2) with
      | true=>
       have hlt:j<M:=by simp only[Bool.and_eq_true,decide_eq_true_eq] at hc; exact hc.1
       have hb:b2=false:=by simp only[Bool.and_eq_true,Bool.not_eq_true'] at hc; exact hc.2
       subst hb;clear hc;have hq:=HI.out.size;have k1:∀ g,(Value.slice ao m cap).ownBlock=some g->g≠wc.heap.size:=fun g e=>by have:=(World.ownsRow.lt HI.out.K g e).2; omega
       have k2:∀ g,(Value.slice ao2 m2 cap2).ownBlock=some g->g≠wc.heap.size:=fun g e=>by have:=(World.ownsRow.lt HI.out.N g e).2; omega
       obtain⟨Q,hQ⟩:∃ Q,wc.heap.size=Q:=⟨_,rfl⟩;have X0:Own (wc.alloc (.cells #[.string ⟨#[]⟩,.int .i64 0,.int .i64 0,.int .i64 0] 95)) Q 95 [.string ⟨#[]⟩,.int .i64 0,.int .i64 0,.int .i64 0]:=by rw[<- hQ]; exact Own.made wc 95 [.string ⟨#[]⟩,.int .i64 0,.int .i64 0,.int .i64 0]
       have J0:=HI.out.to ((Below.refl _ wc).alloc (Nat.le_refl _) (.cells #[.string ⟨#[]⟩,.int .i64 0,.int .i64 0,.int .i64 0] 95));have C0:=hid (HNX.out I2 false _ _ _ _ _ J0);have HJ0:=hid (And.intro J0 X0);have KK:=hid (And.intro k1 k2);rw[hQ] at hq KK;clear J0 X0 HI k1 k2;go_wp2_with fail
       refine C0.out.mono ?_
       rintro _ w2 ⟨x,I3,b3,rfl,n3,i3,s3,c3'⟩;have J3:=hid (HJ0.out.1.next i3 s3 c3');have X3:=hid (c3'.own HJ0.out.2 (by omega))
       have d3:=n3.bd;obtain⟨X,rfl⟩:∃ X:Nat,x=X:=⟨x.toNat,by omega⟩
       have hX:X<=255:=by omega
       have N3:=hid n3;have l3:=n3.le HR.out.le;have hF:Hid ((rent M (rst S I1 false)).2.2=true->(c3 r0).2.2=true):=by
        intro h;cases hb1:b1 with
        | true=>exact D2.out.2 hb1
        | false=>rw[(D2.out.1 hb1).2]; exact h
       have hFF:=hF.out;clear i3 s3 c3' n3 C0 HJ0 d3 hF;have HF:=hid hFF;clear hFF;have p0:=J3.out.i.cell (i:=0) rfl;have p1:=J3.out.ps.cell (i:=0) rfl
       by_cases gt:S.size<I3+X
       ·have gt':(S.size:Int)<(I3:Int)+X:=by omega
        have sc:=J3.out.sh.cell (i:=0) rfl;have sf:=J3.out.sh.free 0;have J4:=hid J3.out.setB;have s4:=J4.out.sh.cell (i:=0) rfl;have FS:Hid (decC S.data.toList=(nilC,5)):=UX _ (by
         have g:=HR.out.short hlt HF.out N3.out gt;rw[HR0.out] at g;exact g)
        have r1:=box2_of J4.out.res;obtain⟨y0,y1⟩:=Z6 (.slice none 0 0) (.slice none 0 0) r1.c0 r1.c1;obtain⟨q0,q1,q2,q3,_⟩:=r1;clear gt;go_wp2
        refine bodyPost_ret (v:=.tuple #[.agg #[.slice none 0 0,.slice none 0 0],.int .i64 5]) (by simp[results,Tryz.results122,go_sem,y0,y1]) rfl ?_
        refine⟨none,0,0,none,0,0,by rw[FS.out],?_,Below.res2 J4.out.below (by omega) _ _⟩
        rw[FS.out]; exact ZT _ _ _ _
       ·have gt':¬ (S.size:Int)<(I3:Int)+X:=by omega
        have g1:(I3:Int)<=(I3:Int)+X:=by omega
        have g2:(I3:Int)+X<=S.size:=by omega
        obtain⟨⟨v0,_,_,_⟩,f0,_,_,_⟩:=own4 X3.out;have hle:I3+X<=S.size:=by omega
        have f1:=J3.out.i.free 0;have J4:=hid (J3.out.far (o:=0) (v:=.string (S.extract I3 (I3+X))) hq KK.out.1 KK.out.2);have X4:=hid (X3.out.set (i:=0) (by simp) (.string (S.extract I3 (I3+X))))
        have p2:=J4.out.i.cell (i:=0) rfl;have f2:=J4.out.i.free 0;have J5:=hid (J4.out.setI (I':=I3+X) ((I3:Int)+X) (by omega))
        have X5:=hid (X4.out.other (p:=⟨w.heap.size+1+1,0,none⟩) (by show Q≠w.heap.size+1+1; omega) (.int .i64 ((I3:Int)+X)))
        have C5:=hid (HNX.out (I3+X) b3 _ _ _ _ _ J5.out);clear gt;go_wp2_with fail
        refine C5.out.mono ?_
        rintro _ w4 ⟨y1,I5,b5,rfl,n5,i5,s5,c5⟩;have J6:=hid (J5.out.next i5 s5 c5);have X6:=hid (c5.own X5.out (by omega))
        have N5:=hid n5;have J7:=hid (J6.out.far (o:=1) (v:=.int .i64 y1) hq KK.out.1 KK.out.2);have X7:=hid (X6.out.set (i:=1) (by simp) (.int .i64 y1))
        have C7:=hid (HNX.out I5 b5 _ _ _ _ _ J7.out);clear v0 f0 f1 p0 p1 p2 f2 J3 X3 J4 X4 J5 X5 C5 n5 i5 s5 c5;obtain⟨⟨_,v0,_,_⟩,_,f0,_,_⟩:=own4 X6.out;go_wp2_with fail
        refine C7.out.mono ?_
        rintro _ w5 ⟨y2,I7,b7,rfl,n7,i7,s7,c7⟩;have J8:=hid (J7.out.next i7 s7 c7);have X8:=hid (c7.own X7.out (by omega))
        have N7:=hid n7;have J9:=hid (J8.out.far (o:=2) (v:=.int .i64 (256*y2)) hq KK.out.1 KK.out.2);have X9:=hid (X8.out.set (i:=2) (by simp) (.int .i64 (256*y2)))
        have C9:=hid (HNX.out I7 b7 _ _ _ _ _ J9.out.drew);obtain⟨e70,e71⟩:=n7.bd;clear v0 f0 J6 X6 J7 X7 C7 n7 i7 s7 c7;obtain⟨⟨_,_,v0,_⟩,_,_,f0,_⟩:=own4 X8.out;go_upto_region 26 with fail
        obtain⟨⟨_,_,v1,_⟩,_,_,f1,_⟩:=own4 X9.out;go_region_with (go_at_call 172; refine C9.out.mono ?_; rintro _ w6 ⟨y3,I9,b9,rfl,n9,i9,s9,c9⟩; (have X10:=hid (c9.own X9.out.drew (by omega))); (have v2:=(own4 X10.out).1.2.2.1); (have f2:=(own4 X10.out).2.2.2.1); (have J10:=hid (J9.out.drew.next i9 s9 c9)); (have N9:=hid n9); (have e9:=n9.bd); (have u9:IntKind.i64.wrap (256*y2+y3)=256*y2+y3:=IntWalk.i64_in _ (by omega)); clear i9 s9 c9 n9 e9)
        all_goals
         have J11:=hid (J10.out.far (o:=2) (v:=.int .i64 (256*y2+y3)) hq KK.out.1 KK.out.2);have X11:=hid (X10.out.set (i:=2) (by simp) (.int .i64 (256*y2+y3)))
         have C11:=hid (HNX.out I9 b9 _ _ _ _ _ J11.out);clear v0 f0 v1 f1 v2 f2 u9 J8 X8 J9 X9 C9;go_wp2_with fail
         refine C11.out.mono ?_
         rintro _ w7 ⟨y4,I11,b11,rfl,n11,i11,s11,c11⟩;have J12:=hid (J11.out.next i11 s11 c11);have X12:=hid (c11.own X11.out (by omega))
         have N11:=hid n11;have J13:=J12.out.far (o:=3) (v:=.int .i64 y4) hq KK.out.1 KK.out.2;have X13:=X12.out.set (i:=3) (by simp) (.int .i64 y4)
         have RR:=hid (HR.out.step hlt HF.out N3.out hle N5.out N7.out N9.out N11.out rfl);have bx:=J13.box.cell (i:=1) rfl;obtain⟨⟨o0,o1,o2,o3⟩,_,_,_,_⟩:=own4 X13;obtain⟨⟨_,_,_,v3⟩,_,_,_,f3⟩:=own4 X12.out;have hll2:=HR.out.len;have JA:=hid (J13.to ((Below.refl _ _).alloc (Nat.le_refl _) (.cells #[.string (S.extract I3 (I3+X)),.int .i64 y1,.int .i64 (256*y2+y3),.int .i64 y4] 95)));have NA:=Wc (w7.setCell ⟨Q,3,none⟩ (.int .i64 y4)) ⟨S.extract I3 (I3+X),y1,256*y2+y3,y4⟩ 95;rw[show (w7.setCell ⟨Q,3,none⟩ (.int .i64 y4)).heap.size=w7.heap.size by simp[World.setCell]] at NA
         clear C11 n11 i11 s11 c11 J10 X10 J11 X11 X12 J12 J13 X13 N3 N5 N7 N9 N11;generalize S.extract I3 (I3+X)=xs at *;generalize 256*y2+y3=ya at *;go_wp2_with (at_builtin; (refine Zx _ rfl (.tmp 95) (.tmp 97) rfl (w.heap.size+5) _ E rfl JA.out.N ⟨w7.heap.size,0,none⟩ 1 ⟨xs,y1,ya,y4⟩ rfl NA (by omega) JA.out.size ?_; intro g5 m5 cap5 w8 hm5 hg5 hown5 hgrow5; have A5:=JA.out.app1 hgrow5 hown5; (have t0:=A5.1.cell (i:=1) rfl); (have t1:=A5.1.free 1); have J5:=hid A5.2; clear hown5 hgrow5 A5))
         go_roundw
         case rel=>exact⟨j+1,I11,m5,cap5,b11,some ⟨g5,0,none⟩,E++[⟨xs,y1,ya,y4⟩],by omega,by go_num,J5,RR⟩
         case measure=>simp[RowKit.intOf]; omega
      | false=>
       have sh:=HI.out.sh.cell (i:=0) rfl;cases hb2:b2 with
       | true=>
        rw[hb2] at sh;have FS:Hid (decC S.data.toList=(nilC,5)):=UX _ (by
         have g:=HR.out.no hb2;rw[HR0.out] at g;exact g)
        have r1:=box2_of HI.out.res;obtain⟨y0,y1⟩:=Z6 (.slice none 0 0) (.slice none 0 0) r1.c0 r1.c1;obtain⟨q0,q1,q2,q3,_⟩:=r1;clear hc hb2;go_wp2
        refine bodyPost_ret (v:=.tuple #[.agg #[.slice none 0 0,.slice none 0 0],.int .i64 5]) (by simp[results,Tryz.results122,go_sem,y0,y1]) rfl ?_
        refine⟨none,0,0,none,0,0,by rw[FS.out],?_,Below.res2 HI.out.below (by omega) _ _⟩
        rw[FS.out]; exact ZT _ _ _ _
       | false=>
        rw[hb2] at sh;have hjM:j=M:=by
         rw[hb2] at hc
         simp at hc
         omega
        have hb1:b1=false:=by
         cases h:b1 with
         | false=>rfl
         | true=>have:=HR.out.st h; rw[hb2] at this; cases this
        have ER:Hid (rcat S.data.toList=((L,E),rst S I2 false)):=by
         have e1:=D2.out.1 hb1;have e2:=HR.out.yes hb2;rw[hjM,<- e1.2] at e2;rw[HR0.out] at e1 e2;show ((_,_),_)=_
         rw[e1.1,e2]
        have bd:Hid (L.length<=maxLen∧E.length<=maxLen∧∀ i,i<E.length->(en E i).s.size<=maxLen):=by
         refine⟨by rw[hll]; unfold maxLen; omega,by rw[HR.out.len]; unfold maxLen; omega,fun i hi=>?_⟩
         have e2:=HR.out.yes hb2
         have:=Z4g (rst S I1 false) j i (by rw[<- HR.out.len]; exact hi)
         rw[e2] at this;exact Nat.le_trans this (by unfold maxLen; omega)
        rw[hb2] at HI;have hle2:=HR.out.le;clear hc hb2 hb1 HR D2 hjM HNX;go_wp2_with fail
        clear sh;go_loopg [106] S.size (fun gg _ wr=>∃ J:Nat,S.size-J<=gg∧I2<=J∧J<=S.size∧Hid (RfI w S J false (.slice ao m cap) (.slice ao2 m2 cap2) L E wr)∧Hid (zeros ((S.data.toList.drop I2).take (J-I2))=true))
        case atStart=>exact⟨I2,by omega,Nat.le_refl _,hle2,HI,by show _=_; rw[Nat.sub_self]; rfl⟩
        case round=>
         obtain⟨J,hg,hIJ,hJ,HJ,HZ⟩:=hrel;clear HI;have p0:=HJ.out.i.cell (i:=0) rfl;have p1:=HJ.out.ps.cell (i:=0) rfl
         by_cases hlt:J<S.size
         ·have hlt':(J:Int)<S.size:=by omega
          by_cases hz:S[J]=0
          ·have qz:(((S[J]'hlt).toNat:Int) != 0)=false:=by rw[hz]; rfl
           have ZS:=hid (Z2E S I2 J hIJ hlt HZ.out hz);have JN:=hid (HJ.out.setI (I':=J+1) ((J:Int)+1) (by omega))
           have f0:=HJ.out.i.free 0;clear hz;go_wp2
           go_roundg (S.size-(J+1))
           case measure=>omega
           case rel=>exact⟨J+1,by omega,by omega,by omega,JN,ZS⟩
          ·have qz:(((S[J]'hlt).toNat:Int) != 0)=true:=by
            rw[bne_iff_ne];intro h
            apply hz
            have:(S[J]'hlt).toNat=0:=by omega
            exact UInt8.toNat_inj.1 this
           have FS:Hid (decC S.data.toList=(nilC,4)):=Z2k _ (by rw[ER.out]; rfl) (by rw[ER.out]; exact Z3I S I2 J hIJ hlt hz)
           have r1:=box2_of HJ.out.res;obtain⟨y0,y1⟩:=Z6 (.slice none 0 0) (.slice none 0 0) r1.c0 r1.c1;obtain⟨q0,q1,q2,q3,_⟩:=r1;clear hz;go_wp2
           refine bodyPost_ret (v:=.tuple #[.agg #[.slice none 0 0,.slice none 0 0],.int .i64 4]) (by simp[results,Tryz.results122,go_sem,y0,y1]) rfl ?_
           refine⟨none,0,0,none,0,0,by rw[FS.out],?_,Below.res2 HJ.out.below (by omega) _ _⟩
           rw[FS.out]; exact ZT _ _ _ _
         ·obtain rfl:J=S.size:=by omega
          have hlt':¬ (S.size:Int)<S.size:=by omega
          have ZA:zeros (rst S I2 false).1=true:=by
           have:=HZ.out
           rw[List.take_of_length_le (by simp)] at this
           exact this
          have CT:=Ua HJ.out.K HJ.out.N bd.out;have CC:=Vl ao m cap ao2 m2 cap2 (L,E) _ CT;have x0:=HJ.out.box.cell (i:=0) rfl;have x1:=HJ.out.box.cell (i:=1) rfl
          by_cases ck:catChk (L,E)=0
          ·have F:=hid (Z5m S.data.toList (by rw[ER.out]; rfl) (by rw[ER.out]; exact ZA) (by rw[ER.out]; exact ck))
           rw[ER.out] at F;rw[ck] at CC;have HC:=hid CC;clear CT CC ck ZA hlt;go_wp2_with fail
           refine HC.out.mono ?_
           rintro _ w3 ⟨rfl,g3⟩;have I4:=hid (HJ.out.to g3);clear x0 x1 p0 p1;have x0:=I4.out.box.cell (i:=0) rfl;have x1:=I4.out.box.cell (i:=1) rfl;have r1:=box2_of I4.out.res;obtain⟨y0,y1⟩:=Z6 (.slice ao m cap) (.slice ao2 m2 cap2) r1.c0 r1.c1;obtain⟨q0,q1,q2,q3,_⟩:=r1;clear g3 HC;go_wp2
           refine bodyPost_ret (v:=.tuple #[.agg #[.slice ao m cap,.slice ao2 m2 cap2],.int .i64 0]) (by simp[results,Tryz.results122,go_sem,y0,y1]) rfl ?_
           refine⟨ao,m,cap,ao2,m2,cap2,by rw[F.out],?_,Below.res2 I4.out.below (by omega) _ _⟩
           rw[F.out];have z0:=Zo w3 (w.heap.size+1) 0 (.slice ao m cap);have z1:=Zo (w3.setCell ⟨w.heap.size+1,0,none⟩ (.slice ao m cap)) (w.heap.size+1) 1 (.slice ao2 m2 cap2);exact Ua (z1.row (z0.row I4.out.K (fun g hg=>by omega)) (fun g hg=>by omega)) (z1.row (z0.row I4.out.N (fun g hg=>by omega)) (fun g hg=>by omega)) bd.out
          ·have F:=hid (Z5n S.data.toList (by rw[ER.out]; rfl) (by rw[ER.out]; exact ZA) (by rw[ER.out]; exact ck))
           rw[ER.out] at F;dsimp only at F;generalize catChk (L,E)=T at CC ck F;have ck':(T != 0)=true:=by rw[bne_iff_ne]; exact ck
           have HC:=hid CC;clear CT CC ck ZA hlt;go_wp2_with fail
           refine HC.out.mono ?_
           rintro _ w3 ⟨rfl,g3⟩;have I4:=hid (HJ.out.to g3);have r1:=box2_of I4.out.res;obtain⟨y0,y1⟩:=Z6 (.slice none 0 0) (.slice none 0 0) r1.c0 r1.c1;obtain⟨q0,q1,q2,q3,_⟩:=r1;clear g3 HC x0 x1 p0 p1;go_wp2
           refine bodyPost_ret (v:=.tuple #[.agg #[.slice none 0 0,.slice none 0 0],.int .i64 T]) (by simp[results,Tryz.results122,go_sem,y0,y1]) rfl ?_
           refine⟨none,0,0,none,0,0,by rw[F.out],?_,Below.res2 I4.out.below (by omega) _ _⟩
           rw[F.out]; exact ZT _ _ _ _
end Go.Proofs.YtdnacpbgodooaaaGreatDoor
namespace Go.Proofs.YtdnacpbgodooaaaGreatDoor
open Go.RowKit Go.Lib
theorem Ud {w W w2:World} {p:Nat} {r:Ar × Int} {x:Option Addr} {n c:Nat} (hB:Below w.heap.size w W) (hp:w.heap.size<=p) (hlt:p<W.heap.size) (hc:W.cell? ⟨p,0,none⟩=some (.slice none 0 0))
  (hX:(n=0∧r.1=[]∧x=none)∨∃ b h,x=some ⟨b,0,none⟩∧W.heap.size<=b∧Z4 w2 b 0 n h r.1) (g:Below W.heap.size W w2):
  OutA w r (.returned (.tuple #[.agg #[.slice x n c],.int .i64 r.2])) (w2.setCell ⟨p,0,none⟩ (.slice x n c)):=by
 have c2:=(g.cell (p:=⟨p,0,none⟩) hlt).trans hc;refine⟨⟨x,n,c,rfl,?_⟩,(bel3 hB g).setCell (by exact hp) _⟩
 rcases hX with h | ⟨b,h,e,hb,hf⟩
 ·exact .inl h
 ·exact .inr ⟨b,h,e,Nat.le_trans hB.size hb,hf.box (by omega) c2 _⟩
theorem Z1z (n:Int) (w:World):Calls Tryz.prog 9 #[.int .i64 n] w (OutA w (arNew n)):=by
 obtain⟨W,hW⟩:∃ W,W=w.alloc (.cells #[.slice none 0 0] 26):=⟨_,rfl⟩;have hB:Below w.heap.size w W:=by rw[hW]; go_grown
 have hz:W.heap.size=w.heap.size+1:=by rw[hW]; simp
 have rc:W.cell? ⟨w.heap.size,0,none⟩=some (.slice none 0 0):=by rw[hW]; simp[go_sem]
 have rf:W.frozen? ⟨w.heap.size,0,none⟩=false:=by rw[hW]; simp[go_sem]
 have CA:=hid (Z5K n W);have HO:=hid (fun (w2:World) (x:Option Addr) (m c:Nat) hX (g:Below W.heap.size W w2)=>Ud (r:=arNew n) (x:=x) (n:=m) (c:=c) hB (Nat.le_refl _) (by omega) rc hX g)
 have HP:=hid (And.intro hz (And.intro rc rf));rw[hW] at CA;have HE:=hid hW;clear hB hz rc rf hW;generalize arNew n=r at CA HO;go_enter Tryz.func9,Tryz.ntmps9
 go_wp2_with fail
 refine CA.out.mono ?_
 rintro _ w2 ⟨⟨x,m,c,rfl,hX⟩,g⟩;rw[<- HE.out] at hX g;have r1:=(g.cell (p:=⟨w.heap.size,0,none⟩) (by show w.heap.size<W.heap.size; rw[HP.out.1]; omega)).trans HP.out.2.1
 have r2:=(g.frozen (p:=⟨w.heap.size,0,none⟩) (by show w.heap.size<W.heap.size; rw[HP.out.1]; omega)).trans HP.out.2.2
 have y0:=World.cell?_setCell_same w2 ⟨w.heap.size,0,none⟩ (.slice x m c) r1
 have K:=hid (HO.out w2 x m c hX g);clear hX g CA;go_wp2
 refine bodyPost_ret (v:=.tuple #[.agg #[.slice x m c],.int .i64 r.2]) (by simp[results,Tryz.results9,go_sem,y0]) rfl ?_
 exact K.out
end Go.Proofs.YtdnacpbgodooaaaGreatDoor
namespace Go.Proofs.YtdnacpbgodooaaaGreatDoor
open Go.RowKit Go.Lib
theorem XH {w:World} {p q:Addr} {x:Value} {a:Option Addr} {n c:Nat} (h:w.cell? q=some x) (hp:w.cell? p=some (.slice a n c)) (hne:∀ a n c,x≠.slice a n c) (v:Value):(w.setCell p v).cell? q=some x:=by
 rw[World.cell?_setCell_other]
 ·exact h
 ·intro e
  rw[<- e,hp] at h;exact hne a n c (Option.some.inj h).symm
theorem ZW.slices {w:World} {a a':Option Addr} {n c m:Nat} {C:Ct} (h:ZW w a n c a' m C) {p:Addr} {x:Option Addr} {k d:Nat} (hp:w.cell? p=some (.slice x k d)) (v:Value):ZW (w.setCell p v) a n c a' m C:=by
 refine⟨h.cap,⟨h.B.sn,h.B.nb,fun i hi=>?_⟩,⟨h.E.sn,h.E.nb,h.E.nm,fun i hi=>?_⟩⟩
 ·obtain⟨b,o,e,hb,c0,c1⟩:=h.B.c i hi
  exact⟨b,o,e,by simpa[World.setCell] using hb,XH c0 hp (by intros; simp) v,XH c1 hp (by intros; simp) v⟩
 ·obtain⟨b,o,e,hb,c0,c1,c2,c3⟩:=h.E.c i hi
  exact⟨b,o,e,by simpa[World.setCell] using hb,XH c0 hp (by intros; simp) v,XH c1 hp (by intros; simp) v,XH c2 hp (by intros; simp) v,XH c3 hp (by intros; simp) v⟩
theorem Tx (A:Ar) (x:Int) (n:Nat):(Zn A x n).1.length<=n:=by
 unfold Zn
 split
 ·simp; omega
 ·simp
theorem Vb {w w2:World} {p:Nat} {r:Ct × Int} {a a':Option Addr} {n c m c':Nat} (hB:Below w.heap.size w w2) (hp:w.heap.size<=p) (hb:Own w2 p 83 [.slice none 0 0,.slice none 0 0]) (hX:ZW w2 a n c a' m r.1):
  Z5U w r (.returned (.tuple #[.agg #[.slice a n c,.slice a' m c'],.int .i64 r.2])) ((w2.setCell ⟨p,0,none⟩ (.slice a n c)).setCell ⟨p,1,none⟩ (.slice a' m c')):=by
 refine⟨a,n,c,a',m,c',rfl,?_,Below.res2 hB hp _ _⟩
 exact (hX.slices (hb.cell (i:=0) rfl) _).slices ((hb.set (i:=0) (by simp) (.slice a n c)).cell (i:=1) rfl) _
theorem Tc (a:Option Addr) (n c:Nat) (A:Ar) (w:World) (H:Z5 w a n A):
  Calls Tryz.prog 41 #[.agg #[.slice a n c]] w fun e w'=>Z5U w (opn A) e w':=by
 obtain⟨W1,hW1⟩:∃ W1,W1=w.alloc (.cells #[.slice a n c] 26):=⟨_,rfl⟩;obtain⟨W,hW⟩:∃ W,W=W1.alloc (.cells #[.slice none 0 0,.slice none 0 0] 83):=⟨_,rfl⟩;have z1:W1.heap.size=w.heap.size+1:=by rw[hW1]; simp
 have hB:Below w.heap.size w W:=by rw[hW,hW1]; go_grown
 have k2:Own W (w.heap.size+1) 83 [.slice none 0 0,.slice none 0 0]:=by
  have:=Own.made W1 83 [.slice none 0 0,.slice none 0 0]
  rw[z1] at this;rw[hW]; exact this
 have CR:=Tw a n c 0 192 A W (H.below hB);rw[hW,hW1] at CR;rw[hW1] at hW;have HP:=hid (And.intro hB (And.intro k2 hW));have hl:=Tx A 0 192;unfold opn;obtain⟨R,hR⟩:∃ R,Zn A 0 192=R:=⟨_,rfl⟩;have hl':(Zn A 0 192).1.length<=192:=hl;rw[hR] at CR hl' ⊢;obtain⟨S,E⟩:=R;dsimp only at CR hl' ⊢;have H1:=hid CR;clear CR hl hR hB k2 hW hW1 z1 H
 by_cases e:E=0
 ·rw[if_pos e]
  subst e;have CD:=hid (fun wx=>Z72 (str S) wx)
  rw[str_list] at CD;generalize decC S=r at CD;obtain⟨Z,hZ⟩:∃ Z,str S=Z:=⟨_,rfl⟩;rw[hZ] at H1 CD;clear hZ hl';have e0:((0:Int) != 0)=false:=rfl;go_enter Tryz.func41,Tryz.ntmps41
  go_wp2_with fail
  refine H1.out.mono ?_
  rintro _ w1 ⟨rfl,g1⟩;rw[<- HP.out.2.2] at g1;have J1:=hid (And.intro (HP.out.2.1.below' g1) (HP.out.1.trans (g1.mono HP.out.1.size)));clear g1 H1;go_wp2_with fail
  refine (CD.out _).mono ?_
  rintro _ w2 ⟨x,n2,d,x',m2,d',rfl,hX,g2⟩;have K2:=J1.out.1.below' g2;have K:=hid (Vb (c':=d') (J1.out.2.trans (g2.mono J1.out.2.size)) (by omega) K2 hX)
  have r0:=box2_of K2;obtain⟨y0,y1⟩:=Z6 (.slice x n2 d) (.slice x' m2 d') r0.c0 r0.c1;obtain⟨q0,q1,q2,q3,_⟩:=r0;clear K2 hX g2 J1 CD;go_wp2
  refine bodyPost_ret (v:=.tuple #[.agg #[.slice x n2 d,.slice x' m2 d'],.int .i64 r.2]) (by simp[results,Tryz.results41,go_sem,y0,y1]) rfl ?_
  exact K.out
 ·rw[if_neg e]
  have e0:(E != 0)=true:=by rw[bne_iff_ne]; exact e
  generalize str S=Z at H1;go_enter Tryz.func41,Tryz.ntmps41
  go_wp2_with fail
  refine H1.out.mono ?_
  rintro _ w1 ⟨rfl,g1⟩;rw[<- HP.out.2.2] at g1;have K2:=HP.out.2.1.below' g1;have K:=hid (Vb (r:=(nilC,E)) (c':=0) (HP.out.1.trans (g1.mono HP.out.1.size)) (by omega) K2 (ZT w1 none none 0))
  have r0:=box2_of K2;obtain⟨y0,y1⟩:=Z6 (.slice none 0 0) (.slice none 0 0) r0.c0 r0.c1;obtain⟨q0,q1,q2,q3,_⟩:=r0;clear K2 g1 H1;go_wp2
  refine bodyPost_ret (v:=.tuple #[.agg #[.slice none 0 0,.slice none 0 0],.int .i64 E]) (by simp[results,Tryz.results41,go_sem,y0,y1]) rfl ?_
  exact K.out
theorem Yx (a:Option Addr) (n c:Nat) (A:Ar) (w:World) (H:Z5 w a n A):
  Calls Tryz.prog 61 #[.agg #[.slice a n c]] w fun e w'=>Z5U w (opn A) e w':=by
 obtain⟨W1,hW1⟩:∃ W1,W1=w.alloc (.cells #[.slice a n c] 26):=⟨_,rfl⟩;obtain⟨W,hW⟩:∃ W,W=W1.alloc (.cells #[.slice none 0 0,.slice none 0 0] 83):=⟨_,rfl⟩;have z1:W1.heap.size=w.heap.size+1:=by rw[hW1]; simp
 have hB:Below w.heap.size w W:=by rw[hW,hW1]; go_grown
 have k2:Own W (w.heap.size+1) 83 [.slice none 0 0,.slice none 0 0]:=by
  have:=Own.made W1 83 [.slice none 0 0,.slice none 0 0]
  rw[z1] at this;rw[hW]; exact this
 have CR:=VU a n c 0 192 A W (H.below hB);rw[hW,hW1] at CR;rw[hW1] at hW;have HP:=hid (And.intro hB (And.intro k2 hW));have hl:=Tx A 0 192;unfold opn;obtain⟨R,hR⟩:∃ R,Zn A 0 192=R:=⟨_,rfl⟩;have hl':(Zn A 0 192).1.length<=192:=hl;rw[hR] at CR hl' ⊢;obtain⟨S,E⟩:=R;dsimp only at CR hl' ⊢;have H1:=hid CR;clear CR hl hR hB k2 hW hW1 z1 H
 by_cases e:E=0
 ·rw[if_pos e]
  subst e;have CD:=hid (fun wx=>Z31 (str S) wx (by rw[str_size]; omega))
  rw[str_list] at CD;generalize decC S=r at CD;obtain⟨Z,hZ⟩:∃ Z,str S=Z:=⟨_,rfl⟩;rw[hZ] at H1 CD;clear hZ hl';have e0:((0:Int) != 0)=false:=rfl;go_enter Tryz.func61,Tryz.ntmps61
  go_wp2_with fail
  refine H1.out.mono ?_
  rintro _ w1 ⟨rfl,g1⟩;rw[<- HP.out.2.2] at g1;have J1:=hid (And.intro (HP.out.2.1.below' g1) (HP.out.1.trans (g1.mono HP.out.1.size)));clear g1 H1;go_wp2_with fail
  refine (CD.out _).mono ?_
  rintro _ w2 ⟨x,n2,d,x',m2,d',rfl,hX,g2⟩;have K2:=J1.out.1.below' g2;have K:=hid (Vb (c':=d') (J1.out.2.trans (g2.mono J1.out.2.size)) (by omega) K2 hX)
  have r0:=box2_of K2;obtain⟨y0,y1⟩:=Z6 (.slice x n2 d) (.slice x' m2 d') r0.c0 r0.c1;obtain⟨q0,q1,q2,q3,_⟩:=r0;clear K2 hX g2 J1 CD;go_wp2
  refine bodyPost_ret (v:=.tuple #[.agg #[.slice x n2 d,.slice x' m2 d'],.int .i64 r.2]) (by simp[results,Tryz.results61,go_sem,y0,y1]) rfl ?_
  exact K.out
 ·rw[if_neg e]
  have e0:(E != 0)=true:=by rw[bne_iff_ne]; exact e
  generalize str S=Z at H1;go_enter Tryz.func61,Tryz.ntmps61
  go_wp2_with fail
  refine H1.out.mono ?_
  rintro _ w1 ⟨rfl,g1⟩;rw[<- HP.out.2.2] at g1;have K2:=HP.out.2.1.below' g1;have K:=hid (Vb (r:=(nilC,E)) (c':=0) (HP.out.1.trans (g1.mono HP.out.1.size)) (by omega) K2 (ZT w1 none none 0))
  have r0:=box2_of K2;obtain⟨y0,y1⟩:=Z6 (.slice none 0 0) (.slice none 0 0) r0.c0 r0.c1;obtain⟨q0,q1,q2,q3,_⟩:=r0;clear K2 g1 H1;go_wp2
  refine bodyPost_ret (v:=.tuple #[.agg #[.slice none 0 0,.slice none 0 0],.int .i64 E]) (by simp[results,Tryz.results61,go_sem,y0,y1]) rfl ?_
  exact K.out
end Go.Proofs.YtdnacpbgodooaaaGreatDoor
