import Derived.Test.YtdnacpbgodooaaaGreatDoorMem
import Derived.Handy
import Derived.Test.YtdnacpbgodooaaaGreatDoorPureB
set_option maxRecDepth 20000
namespace Go.Proofs.YtdnacpbgodooaaaGreatDoor
open Go.RowKit Go.Lib
theorem Wo (D:Dv) (k:Nat) (s:ByteArray) (l:Bool):(D.1.map Value.string).set k (.string s)=(dvPut D k s l).1.map .string∧(D.2.map Value.bool).set k (.bool l)=(dvPut D k s l).2.map .bool:=by
 simp[dvPut,List.map_set]
theorem undrew {W w':World} (g:Below W.drew.heap.size W.drew w'):Below W.heap.size W w':=⟨g.os,g.tape,g.output,g.size,g.block⟩
theorem YL {w:World} {a:Addr} {v:Value} (h:w.cell? a=some v):a.block<w.heap.size:=by
 unfold World.cell? at h
 split at h
 ·rename_i c t f hc
  exact lt_of_block hc
 ·cases h
structure Box2 (w:World) (p:Nat) (d1 d2:Value):Prop where
 c0:w.cell? ⟨p,0,none⟩=some d1
 c1:w.cell? ⟨p,1,none⟩=some d2
 f0:w.frozen? ⟨p,0,none⟩=false
 f1:w.frozen? ⟨p,1,none⟩=false
 lt:p<w.heap.size
section
variable {w w':World} {p:Nat} {d1 d2:Value}
theorem Box2.below (h:Box2 w p d1 d2) (g:Below w.heap.size w w'):Box2 w' p d1 d2:=
 ⟨(g.cell (p:=⟨p,0,none⟩) h.lt).trans h.c0,(g.cell (p:=⟨p,1,none⟩) h.lt).trans h.c1,(g.frozen (p:=⟨p,0,none⟩) h.lt).trans h.f0,(g.frozen (p:=⟨p,1,none⟩) h.lt).trans h.f1,Nat.lt_of_lt_of_le h.lt g.size⟩
theorem Box2.below2 {B:Nat} (h:Box2 w p d1 d2) (g:Below B w w') (hp:p<B):Box2 w' p d1 d2:=
 ⟨(g.cell (p:=⟨p,0,none⟩) hp).trans h.c0,(g.cell (p:=⟨p,1,none⟩) hp).trans h.c1,(g.frozen (p:=⟨p,0,none⟩) hp).trans h.f0,(g.frozen (p:=⟨p,1,none⟩) hp).trans h.f1,Nat.lt_of_lt_of_le h.lt g.size⟩
theorem Box2.store (h:Box2 w p d1 d2) (v0 v1:Value):Box2 ((w.setCell ⟨p,0,none⟩ v0).setCell ⟨p,1,none⟩ v1) p v0 v1:=by
 obtain⟨y0,y1⟩:=Z6 v0 v1 h.c0 h.c1;refine⟨?_,y1,?_,?_,?_⟩
 ·rw[World.cell?_setCell_other _ _ _ _ (by simp)]; exact y0
 ·rw[World.frozen?_setCell,World.frozen?_setCell]; exact h.f0
 ·rw[World.frozen?_setCell,World.frozen?_setCell]; exact h.f1
 ·have:=h.lt
  simpa[World.setCell] using this
theorem Box2.other (h:Box2 w p d1 d2) {q:Addr} (hq:p≠q.block) (v:Value):Box2 (w.setCell q v) p d1 d2:=by
 have e:(w.setCell q v).heap[p]?=w.heap[p]?:=Below.heap_setCell w q v p hq
 exact⟨(World.cell?_of_block (a:=⟨p,0,none⟩) e).trans h.c0,(World.cell?_of_block (a:=⟨p,1,none⟩) e).trans h.c1,(World.frozen?_of_block (a:=⟨p,0,none⟩) e).trans h.f0,(World.frozen?_of_block (a:=⟨p,1,none⟩) e).trans h.f1,by have:=h.lt; simpa[World.setCell] using this⟩
end
theorem box2_of {w:World} {p:Nat} {d1 d2:Value} {t:TypeId} (h:Own w p t [d1,d2]):Box2 w p d1 d2:=⟨h.cell rfl,h.cell rfl,h.free 0,h.free 1,h.lt⟩
def NewS (B:Nat) (a:Option Addr) (n:Nat):Prop:=0<n->∀ b o s,a=some ⟨b,o,s⟩->B<=b
theorem newS_nil (B:Nat) (a:Option Addr):NewS B a 0:=fun h=>absurd h (Nat.lt_irrefl 0)
theorem Z1W {w:World} {base size k:Nat} {e:TypeId} {a:Option Addr} {n c:Nat} {xs:List Value} (h:w.ownsRow base e size (.slice a n c) k xs):NewS base a n:=by
 intro _ b o s e1;subst e1
 rcases h.2 with ⟨e2,_⟩ | ⟨g,cap,cur,e2,hg,_⟩
 ·cases e2
 ·cases e2; exact hg
theorem NewS.less {B B':Nat} {a:Option Addr} {n:Nat} (h:NewS B a n) (hb:B'<=B):NewS B' a n:=fun h0 b o s e=>Nat.le_trans hb (h h0 b o s e)
def Fresh (B:Nat) (a a':Option Addr):Prop:=∀ b o,a=some ⟨b,o,none⟩∨a'=some ⟨b,o,none⟩->B<=b
theorem fresh_none (B:Nat):Fresh B none none:=by
 rintro b o (h | h) <;> cases h
theorem VI {B b b':Nat} (h:B<=b) (h':B<=b'):Fresh B (some ⟨b,0,none⟩) (some ⟨b',0,none⟩):=by
 rintro x o (e | e) <;> cases e <;> assumption
def OutE (w:World) (r:Dv × Int) (e:Ending) (w':World):Prop:=∃ a n c a' m c',e=.returned (.tuple #[.agg #[.slice a n c,.slice a' m c'],.int .i64 r.2])∧Zc w' a n a' m r.1∧Fresh w.heap.size a a'∧Below w.heap.size w w'
def OutN (w:World) (r:Dv × Int) (e:Ending) (w':World):Prop:=∃ a n c a' m c',e=.returned (.tuple #[.agg #[.slice a n c,.slice a' m c'],.int .i64 r.2])∧Zj w.heap.size w' a a' r.1∧(n=r.1.1.length∧m=r.1.2.length∧n<=maxLen∧m<=maxLen)∧Fresh w.heap.size a a'∧Below w.heap.size w w'
theorem OutN.outE {w w':World} {r:Dv × Int} {e:Ending} (h:OutN w r e w'):OutE w r e w':=by
 obtain⟨a,n,c,a',m,c',h1,h2,⟨h3,h4,h5,h6⟩,h7,h8⟩:=h;exact⟨a,n,c,a',m,c',h1,h2.at h3 h4 h5 h6,h7,h8⟩
theorem JL {w w':World} {x:Int} (g:Below w.heap.size w w'):OutN w (nil2,x) (.returned (.tuple #[.agg #[.slice none 0 0,.slice none 0 0],.int .i64 x])) w':=
 ⟨none,0,0,none,0,0,rfl,⟨.inl rfl,.inl rfl,fun h=>absurd rfl h⟩,⟨rfl,rfl,Nat.zero_le _,Nat.zero_le _⟩,fresh_none _,g⟩
theorem W7 {w W w1:World} {p:Nat} {a a':Option Addr} {n c m c':Nat} {D:Dv} (hD:Zc w1 a n a' m D) (hf:Fresh W.heap.size a a') (g:Below w.heap.size w w1) (hp:w.heap.size<=p) (hp':p<W.heap.size) (hw:w.heap.size<=W.heap.size):
  Zc ((w1.setCell ⟨p,0,none⟩ (.slice a n c)).setCell ⟨p,1,none⟩ (.slice a' m c')) a n a' m D∧Fresh w.heap.size a a'∧Below w.heap.size w ((w1.setCell ⟨p,0,none⟩ (.slice a n c)).setCell ⟨p,1,none⟩ (.slice a' m c')):=by
 have other:∀ {V:List Value} {x:Option Addr},Zd w1 x V->(∀ b o,x=some ⟨b,o,none⟩->b≠p)->Zd ((w1.setCell ⟨p,0,none⟩ (.slice a n c)).setCell ⟨p,1,none⟩ (.slice a' m c')) x V:=by
  intro V x hr hx i v hv;obtain⟨b,o,e,hlt,hc⟩:=hr i v hv;have hne:=hx b o e;refine⟨b,o,e,by simpa[World.setCell] using hlt,?_⟩
  rw[World.cell?_setCell_other _ _ _ _ (fun h=>hne (congrArg Addr.block h).symm),World.cell?_setCell_other _ _ _ _ (fun h=>hne (congrArg Addr.block h).symm)]
  exact hc
 refine⟨⟨hD.sn,hD.sm,other hD.S (fun b o h=>?_),other hD.L (fun b o h=>?_),hD.nb,hD.mb⟩,fun b o h=>Nat.le_trans hw (hf b o h),(g.setCell (by exact hp) _).setCell (by exact hp) _⟩
 ·have:=hf b o (.inl h); omega
 ·have:=hf b o (.inr h); omega
theorem Zj.other {B:Nat} {w:World} {a a':Option Addr} {D:Dv} (h:Zj B w a a' D) {p:Addr} (hp:p.block<B) (v:Value):Zj B (w.setCell p v) a a' D:=by
 refine⟨?_,?_,h.apart⟩
 ·rcases h.S with h | ⟨b,h1,h2,h3⟩
  ·exact .inl h
  ·exact .inr ⟨b,h1,h2,h3.other (by omega) v⟩
 ·rcases h.L with h | ⟨b,h1,h2,h3⟩
  ·exact .inl h
  ·exact .inr ⟨b,h1,h2,h3.other (by omega) v⟩
theorem Zj.less {B B':Nat} {w:World} {a a':Option Addr} {D:Dv} (h:Zj B w a a' D) (hb:B'<=B):Zj B' w a a' D:=by
 refine⟨?_,?_,h.apart⟩
 ·rcases h.S with h | ⟨b,h1,h2,h3⟩
  ·exact .inl h
  ·exact .inr ⟨b,h1,Nat.le_trans hb h2,h3⟩
 ·rcases h.L with h | ⟨b,h1,h2,h3⟩
  ·exact .inl h
  ·exact .inr ⟨b,h1,Nat.le_trans hb h2,h3⟩
theorem Zj.below' {B:Nat} {w w':World} {x y:Option Addr} {D:Dv} (h:Zj B w x y D) (g:Below w.heap.size w w'):Zj B w' x y D:=by
 refine⟨?_,?_,h.apart⟩
 ·rcases h.S with e | ⟨b,h1,h2,h3⟩
  ·exact .inl e
  ·exact .inr ⟨b,h1,h2,h3.below' g⟩
 ·rcases h.L with e | ⟨b,h1,h2,h3⟩
  ·exact .inl e
  ·exact .inr ⟨b,h1,h2,h3.below' g⟩
end Go.Proofs.YtdnacpbgodooaaaGreatDoor
namespace Go.Proofs.YtdnacpbgodooaaaGreatDoor
open Go.RowKit Go.Lib
structure Chg (P:Nat->Prop) (w w':World):Prop where
 os:w'.os=w.os
 tape:w'.tape=w.tape
 output:w'.output=w.output
 size:w.heap.size<=w'.heap.size
 block:∀ k,k<w.heap.size->¬ P k->w'.heap[k]?=w.heap[k]?
section
variable {P Q:Nat->Prop} {w w' w'':World}
theorem Chg.refl (P:Nat->Prop) (w:World):Chg P w w:=⟨rfl,rfl,rfl,Nat.le_refl _,fun _ _ _=>rfl⟩
theorem Chg.trans (h:Chg P w w') (h':Chg Q w' w'') (hq:∀ k,k<w.heap.size->Q k->P k):Chg P w w'':=
 ⟨h'.os.trans h.os,h'.tape.trans h.tape,h'.output.trans h.output,Nat.le_trans h.size h'.size,fun k hk hp=>(h'.block k (Nat.lt_of_lt_of_le hk h.size) (fun q=>hp (hq k hk q))).trans (h.block k hk hp)⟩
theorem Chg.step (h:Chg P w w') (h':Chg P w' w''):Chg P w w'':=h.trans h' (fun _ _ q=>q)
theorem chg_below (P:Nat->Prop) (g:Below w.heap.size w w'):Chg P w w':=⟨g.os,g.tape,g.output,g.size,fun k hk _=>g.block k hk⟩
theorem Chg.to (h:Chg P w w') (g:Below w'.heap.size w' w''):Chg P w w'':=h.step (chg_below P g)
theorem Chg.alloc (h:Chg P w w') (o:Obj):Chg P w (w'.alloc o):=h.to ((Below.refl _ w').alloc (Nat.le_refl _) o)
theorem Chg.drew (h:Chg P w w'):Chg P w w'.drew:=⟨h.os,h.tape,h.output,h.size,h.block⟩
theorem Yk {row:Option Nat} (g:w.grownBy w' row):Chg (fun k=>some k=row) w w':=⟨g.os,g.tape,g.output,g.size,fun k hk hp=>g.block k hk hp⟩
theorem Zo (w:World) (p o:Nat) (v:Value):Chg (fun k=>k=p) w (w.setCell ⟨p,o,none⟩ v):=⟨rfl,rfl,rfl,by simp[World.setCell],fun k _ hp=>Below.heap_setCell w ⟨p,o,none⟩ v k hp⟩
theorem Chg.set (h:Chg P w w') {p:Nat} (hp:P p) (o:Nat) (v:Value):Chg P w (w'.setCell ⟨p,o,none⟩ v):=h.trans (Zo w' p o v) (fun k _ q=>by rw[q]; exact hp)
theorem Chg.fresh (h:Chg P w w') {p:Nat} (hp:w.heap.size<=p) (o:Nat) (v:Value):Chg P w (w'.setCell ⟨p,o,none⟩ v):=h.trans (Zo w' p o v) (fun k hk q=>by omega)
theorem Chg.below {B:Nat} (h:Chg P w w') (hB:B<=w.heap.size) (hp:∀ k,k<B->¬ P k):Below B w w':=⟨h.os,h.tape,h.output,h.size,fun k hk=>h.block k (Nat.lt_of_lt_of_le hk hB) (hp k hk)⟩
theorem Chg.own (h:Chg P w w') {b:Nat} {t:TypeId} {V:List Value} (ho:Own w b t V) (hp:¬ P b):Own w' b t V:=ho.of_block (h.block b ho.lt hp)
theorem Chg.row (h:Chg P w w') {base size n:Nat} {e:TypeId} {v:Value} {xs:List Value} (ho:w.ownsRow base e size v n xs) (hp:∀ g,base<=g->¬ P g):w'.ownsRow base e size v n xs:=by
 refine⟨ho.1,?_⟩
 rcases ho.2 with h0 | ⟨g,cap,cur,hv,hg,hh,h1,h2,h3,h4⟩
 ·exact .inl h0
 ·exact .inr ⟨g,cap,cur,hv,hg,(h.block g (lt_of_block hh) (hp g hg)).trans hh,h1,h2,h3,h4⟩
end
end Go.Proofs.YtdnacpbgodooaaaGreatDoor
namespace Go.Proofs.YtdnacpbgodooaaaGreatDoor
open Go.RowKit Go.Lib
structure Hd where
 x:Option Addr
 p:Nat
 c:Nat
 y:Option Addr
 q:Nat
 d:Nat
def Hd.v (h:Hd):Value:=.agg #[.slice h.x h.p h.c,.slice h.y h.q h.d]
structure Arr (w:World) (b o n:Nat) (h:Nat->Hd) (A:Ar):Prop where
 sn:n=A.length
 nb:n<=maxLen
 lt:b<w.heap.size
 c0:∀ i,i<n->w.cell? ⟨b,o+i*2,none⟩=some (.slice (h i).x (h i).p (h i).c)
 c1:∀ i,i<n->w.cell? ⟨b,o+i*2+1,none⟩=some (.slice (h i).y (h i).q (h i).d)
 dv:∀ i,i<n->Zc w (h i).x (h i).p (h i).y (h i).q (dev A i)
def Z5 (w:World) (a:Option Addr) (n:Nat) (A:Ar):Prop:=(n=0∧A=[])∨∃ b o h,a=some ⟨b,o,none⟩∧Arr w b o n h A
section
variable {w w':World} {b o n:Nat} {h:Nat->Hd} {A:Ar} {a:Option Addr}
theorem Arr.below (H:Arr w b o n h A) (g:Below w.heap.size w w'):Arr w' b o n h A:=
 ⟨H.sn,H.nb,Nat.lt_of_lt_of_le H.lt g.size,fun i hi=>(g.cell (p:=⟨b,o+i*2,none⟩) H.lt).trans (H.c0 i hi),fun i hi=>(g.cell (p:=⟨b,o+i*2+1,none⟩) H.lt).trans (H.c1 i hi),fun i hi=>(H.dv i hi).below g⟩
theorem Z5.below (H:Z5 w a n A) (g:Below w.heap.size w w'):Z5 w' a n A:=by
 rcases H with H | ⟨b,o,h,e,H⟩
 ·exact .inl H
 ·exact .inr ⟨b,o,h,e,H.below g⟩
theorem Z5.len (H:Z5 w a n A):n=A.length:=by
 rcases H with ⟨h1,h2⟩ | ⟨b,o,h,e,H⟩
 ·rw[h1,h2]; rfl
 ·exact H.sn
theorem Z5.nb (H:Z5 w a n A):n<=maxLen:=by
 rcases H with ⟨h1,_⟩ | ⟨b,o,h,e,H⟩
 ·rw[h1]; exact Nat.zero_le _
 ·exact H.nb
theorem Arr.three (H:Arr w b o 3 h A):(w.cell? ⟨b,o,none⟩=some (.slice (h 0).x (h 0).p (h 0).c)∧w.cell? ⟨b,o+1,none⟩=some (.slice (h 0).y (h 0).q (h 0).d)) ∧
  (w.cell? ⟨b,o+2,none⟩=some (.slice (h 1).x (h 1).p (h 1).c)∧w.cell? ⟨b,o+3,none⟩=some (.slice (h 1).y (h 1).q (h 1).d)) ∧
  (w.cell? ⟨b,o+4,none⟩=some (.slice (h 2).x (h 2).p (h 2).c)∧w.cell? ⟨b,o+5,none⟩=some (.slice (h 2).y (h 2).q (h 2).d)):=
 ⟨⟨H.c0 0 (by omega),H.c1 0 (by omega)⟩,⟨H.c0 1 (by omega),H.c1 1 (by omega)⟩,⟨H.c0 2 (by omega),H.c1 2 (by omega)⟩⟩
end
end Go.Proofs.YtdnacpbgodooaaaGreatDoor
namespace Go.Proofs.YtdnacpbgodooaaaGreatDoor
open Go.RowKit Go.Lib
theorem Zd.slices {w:World} {x:Option Addr} {V:List Value} (h:Zd w x V) (hV:∀ v∈V,∀ a n c,v≠.slice a n c) {p:Addr} {a:Option Addr} {n c:Nat} (hp:w.cell? p=some (.slice a n c)) (u:Value):Zd (w.setCell p u) x V:=by
 intro i v hv;obtain⟨b,o,e,hlt,hc⟩:=h i v hv;refine⟨b,o,e,by simpa[World.setCell] using hlt,?_⟩
 rw[World.cell?_setCell_other _ _ _ _ (fun e2=>?_)]
 ·exact hc
 ·rw[e2,hc] at hp
  exact hV v (List.mem_of_getElem? hv) a n c (Option.some.inj hp)
theorem Zc.slices {w:World} {x y:Option Addr} {n m:Nat} {D:Dv} (h:Zc w x n y m D) {p:Addr} {a:Option Addr} {k c:Nat} (hp:w.cell? p=some (.slice a k c)) (u:Value):Zc (w.setCell p u) x n y m D:=by
 refine⟨h.sn,h.sm,h.S.slices ?_ hp u,h.L.slices ?_ hp u,h.nb,h.mb⟩
 ·intro v hv a n c e
  obtain⟨s,_,rfl⟩:=List.mem_map.1 hv;cases e
 ·intro v hv a n c e
  obtain⟨s,_,rfl⟩:=List.mem_map.1 hv;cases e
structure Z4 (w:World) (b o n:Nat) (h:Nat->Hd) (A:Ar):Prop where
 arr:Arr w b o n h A
 free:∀ j,w.frozen? ⟨b,j,none⟩=false
section
variable {w w':World} {b o n:Nat} {h:Nat->Hd} {A:Ar}
theorem Z4.below (H:Z4 w b o n h A) (g:Below w.heap.size w w'):Z4 w' b o n h A:=⟨H.arr.below g,fun j=>(g.frozen (p:=⟨b,j,none⟩) H.arr.lt).trans (H.free j)⟩
def setH (h:Nat->Hd) (i:Nat) (d:Hd):Nat->Hd:=fun j=>if j=i then d else h j
theorem Z4.store (H:Z4 w b o n h A) (i:Nat) (hi:i<n) (d:Hd) (D:Dv) (hD:Zc w d.x d.p d.y d.q D):
  Z4 ((w.setCell ⟨b,o+i*2,none⟩ (.slice d.x d.p d.c)).setCell ⟨b,o+i*2+1,none⟩ (.slice d.y d.q d.d)) b o n (setH h i d) (A.set i D)∧w.grownBy ((w.setCell ⟨b,o+i*2,none⟩ (.slice d.x d.p d.c)).setCell ⟨b,o+i*2+1,none⟩ (.slice d.y d.q d.d)) (some b):=by
 have e1:(w.setCell ⟨b,o+i*2,none⟩ (.slice d.x d.p d.c)).cell? ⟨b,o+i*2+1,none⟩=some (.slice (h i).y (h i).q (h i).d):=by
  rw[World.cell?_setCell_other _ _ _ _ (fun e=>by have:=congrArg Addr.off e; simp at this)]
  exact H.arr.c1 i hi
 have hsz:((w.setCell ⟨b,o+i*2,none⟩ (.slice d.x d.p d.c)).setCell ⟨b,o+i*2+1,none⟩ (.slice d.y d.q d.d)).heap.size=w.heap.size:=by simp[World.setCell]
 refine⟨⟨⟨by rw[List.length_set]; exact H.arr.sn,H.arr.nb,by rw[hsz]; exact H.arr.lt,fun j hj=>?_,fun j hj=>?_,fun j hj=>?_⟩,fun j=>?_⟩,⟨rfl,rfl,rfl,by rw[hsz]; exact Nat.le_refl _,fun k _ hk=>?_⟩⟩
 ·rw[World.cell?_setCell_other _ _ _ _ (fun e=>by have:=congrArg Addr.off e; simp at this; omega)]
  by_cases e:j=i
  ·subst e
   rw[World.cell?_setCell_same _ _ _ (H.arr.c0 j hj)]
   simp[setH]
  ·rw[World.cell?_setCell_other _ _ _ _ (fun e2=>by have:=congrArg Addr.off e2; simp at this; omega),H.arr.c0 j hj]
   simp[setH,e]
 ·by_cases e:j=i
  ·subst e
   rw[World.cell?_setCell_same _ _ _ e1]
   simp[setH]
  ·rw[World.cell?_setCell_other _ _ _ _ (fun e2=>by have:=congrArg Addr.off e2; simp at this; omega),World.cell?_setCell_other _ _ _ _ (fun e2=>by have:=congrArg Addr.off e2; simp at this; omega),H.arr.c1 j hj]
   simp[setH,e]
 ·have dv:Zc w (setH h i d j).x (setH h i d j).p (setH h i d j).y (setH h i d j).q (dev (A.set i D) j):=by
   by_cases e:j=i
   ·subst e
    have:dev (A.set j D) j=D:=by simp[dev,<- H.arr.sn,hj]
    rw[this]
    simpa[setH] using hD
   ·have:dev (A.set i D) j=dev A j:=by simp[dev,List.getElem?_set_ne (fun x=>e x.symm)]
    rw[this]
    simpa[setH,e] using H.arr.dv j hj
  exact (dv.slices (H.arr.c0 i hi) _).slices e1 _
 ·rw[World.frozen?_setCell,World.frozen?_setCell]; exact H.free j
 ·rw[Below.heap_setCell _ _ _ _ (fun e=>hk (by rw[e])),Below.heap_setCell _ _ _ _ (fun e=>hk (by rw[e]))]
theorem ZB {b:Nat} {w w1 w2:World} (h:w.grownBy w1 (some b)) (k:w1.grownBy w2 (some b)):w.grownBy w2 (some b):=
 ⟨k.os.trans h.os,k.tape.trans h.tape,k.output.trans h.output,Nat.le_trans h.size k.size,fun i hi hne=>(k.block i (Nat.lt_of_lt_of_le hi h.size) hne).trans (h.block i hi hne)⟩
theorem ZC {b:Nat} {w w1:World} (g:Below w.heap.size w w1):w.grownBy w1 (some b):=⟨g.os,g.tape,g.output,g.size,fun k hk _=>g.block k hk⟩
end
theorem Vq (A:Ar) (i j:Nat) (D:Dv) (h:i≠j):dev (A.set i D) j=dev A j:=by simp[dev,List.getElem?_set_ne h]
theorem stored {w w4:World} {b o i:Nat} {h:Nat->Hd} {A:Ar} (H:Z4 w b o 3 h A) (hi:i<3) (g:Below w.heap.size w w4) {x y:Option Addr} {p c q d:Nat} {D:Dv} (hD:Zc w4 x p y q D):
  (w4.cell? ⟨b,o+i*2,none⟩=some (.slice (h i).x (h i).p (h i).c)∧w4.cell? ⟨b,o+i*2+1,none⟩=some (.slice (h i).y (h i).q (h i).d)∧w4.frozen? ⟨b,o+i*2,none⟩=false∧w4.frozen? ⟨b,o+i*2+1,none⟩=false) ∧
  (∃ h',Z4 ((w4.setCell ⟨b,o+i*2,none⟩ (.slice x p c)).setCell ⟨b,o+i*2+1,none⟩ (.slice y q d)) b o 3 h' (A.set i D))∧w.grownBy ((w4.setCell ⟨b,o+i*2,none⟩ (.slice x p c)).setCell ⟨b,o+i*2+1,none⟩ (.slice y q d)) (some b):=by
 have H4:=H.below g;obtain⟨k1,k2⟩:=H4.store i hi ⟨x,p,c,y,q,d⟩ D hD;exact⟨⟨H4.arr.c0 i hi,H4.arr.c1 i hi,H4.free _,H4.free _⟩,⟨_,k1⟩,ZB (ZC g) k2⟩
theorem Yo {w w':World} {b p:Nat} {v:Value} (g:w.grownBy w' (some b)) (hc:w.cell? ⟨p,0,none⟩=some v) (hp:p<w.heap.size) (hne:p≠b):w'.cell? ⟨p,0,none⟩=some v:=
 (World.cell?_of_block (a:=⟨p,0,none⟩) (g.block p hp (fun e=>hne (Option.some.inj e)))).trans hc
def OutA (w:World) (r:Ar × Int) (e:Ending) (w':World):Prop:=
 (∃ a n c,e=.returned (.tuple #[.agg #[.slice a n c],.int .i64 r.2])∧((n=0∧r.1=[]∧a=none)∨∃ b h,a=some ⟨b,0,none⟩∧w.heap.size<=b∧Z4 w' b 0 n h r.1))∧Below w.heap.size w w'
theorem Zp {w w':World} {x:Int} (g:Below w.heap.size w w'):OutA w ([],x) (.returned (.tuple #[.agg #[.slice none 0 0],.int .i64 x])) w':=⟨⟨none,0,0,rfl,.inl ⟨rfl,rfl,rfl⟩⟩,g⟩
structure DBx (W:World) (p:Nat) (d:Hd) (D:Dv):Prop where
 b:Box2 W p (.slice d.x d.p d.c) (.slice d.y d.q d.d)
 d:Zc W d.x d.p d.y d.q D
theorem DBx.below {W W':World} {p:Nat} {d:Hd} {D:Dv} (h:DBx W p d D) (g:Below W.heap.size W W'):DBx W' p d D:=⟨h.b.below g,h.d.below g⟩
theorem boxedx {w:World} {x x':Option Addr} {n e m e':Nat} {D:Dv} (hX:Zc w x n x' m D):∃ W,W=w.alloc (.cells #[.slice x n e,.slice x' m e'] 56)∧Below w.heap.size w W∧DBx W w.heap.size ⟨x,n,e,x',m,e'⟩ D:=by
 have hb:Below w.heap.size w (w.alloc (.cells #[.slice x n e,.slice x' m e'] 56)):=(Below.refl _ w).alloc (Nat.le_refl _) _;exact⟨_,rfl,hb,box2_of (Own.made w 56 [.slice x n e,.slice x' m e']),hX.below hb⟩
theorem bel3 {w W W':World} (h:Below w.heap.size w W) (g:Below W.heap.size W W'):Below w.heap.size w W':=h.trans (g.mono h.size)
theorem Z2y (w:World) (d0 d1 d2:Hd) (D0 D1 D2:Dv) (h0:Zc w d0.x d0.p d0.y d0.q D0) (h1:Zc w d1.x d1.p d1.y d1.q D1) (h2:Zc w d2.x d2.p d2.y d2.q D2):
  Z4 (w.alloc (.cells #[.slice d0.x d0.p d0.c,.slice d0.y d0.q d0.d,.slice d1.x d1.p d1.c,.slice d1.y d1.q d1.d,.slice d2.x d2.p d2.c,.slice d2.y d2.q d2.d] 56)) w.heap.size 0 3 (fun i=>if i=0 then d0 else if i=1 then d1 else d2) [D0,D1,D2]:=by
 have hb:Below w.heap.size w (w.alloc (.cells #[.slice d0.x d0.p d0.c,.slice d0.y d0.q d0.d,.slice d1.x d1.p d1.c,.slice d1.y d1.q d1.d,.slice d2.x d2.p d2.c,.slice d2.y d2.q d2.d] 56)):=(Below.refl _ w).alloc (Nat.le_refl _) _;have ho:=Own.made w 56 [.slice d0.x d0.p d0.c,.slice d0.y d0.q d0.d,.slice d1.x d1.p d1.c,.slice d1.y d1.q d1.d,.slice d2.x d2.p d2.c,.slice d2.y d2.q d2.d];refine⟨⟨rfl,by unfold maxLen; omega,ho.lt,fun i hi=>?_,fun i hi=>?_,fun i hi=>?_⟩,fun j=>ho.free j⟩
 ·match i,hi with
  | 0,_=>exact ho.cell rfl
  | 1,_=>exact ho.cell rfl
  | 2,_=>exact ho.cell rfl
 ·match i,hi with
  | 0,_=>exact ho.cell rfl
  | 1,_=>exact ho.cell rfl
  | 2,_=>exact ho.cell rfl
 ·match i,hi with
  | 0,_=>exact h0.below hb
  | 1,_=>exact h1.below hb
  | 2,_=>exact h2.below hb
theorem Z4.box {w:World} {b o n p:Nat} {h:Nat->Hd} {A:Ar} (H:Z4 w b o n h A) (hp:p≠b) {a:Option Addr} {k c:Nat} (hc:w.cell? ⟨p,0,none⟩=some (.slice a k c)) (v:Value):Z4 (w.setCell ⟨p,0,none⟩ v) b o n h A:=by
 refine⟨⟨H.arr.sn,H.arr.nb,by have:=H.arr.lt; simpa[World.setCell] using this,fun i hi=>?_,fun i hi=>?_,fun i hi=>(H.arr.dv i hi).slices hc v⟩,fun j=>?_⟩
 ·rw[World.cell?_setCell_other _ _ _ _ (fun e=>hp (congrArg Addr.block e))]; exact H.arr.c0 i hi
 ·rw[World.cell?_setCell_other _ _ _ _ (fun e=>hp (congrArg Addr.block e))]; exact H.arr.c1 i hi
 ·rw[World.frozen?_setCell]; exact H.free j
theorem Z26:(Tryz.prog.info? 56).map (fun i=>(i.zero,i.size,i.bytes))=some (some (.agg #[.slice none 0 0,.slice none 0 0]),2,48):=by kernel_rfl
structure QS (n:Nat) (A:Ar):Prop where
 big:n*48<=140737488351232
 each:∀ i,i<n->(dev A i).1.length*16<=140737488351232∧(dev A i).2.length<=140737488351232
 strs:∀ i,i<n->∀ s∈(dev A i).1,s.size<=140737488351232
def OutC (w:World) (n:Nat) (A:Ar) (e:Ending) (w':World):Prop:=
 ∃ a' c',e=.returned (.agg #[.slice a' n c'])∧((n=0∧A=[])∨∃ b h,a'=some ⟨b,0,none⟩∧w.heap.size<=b∧Z4 w' b 0 n h A)∧Below w.heap.size w w'
theorem ZN (A:Ar) (h:Z2 A=true):QS 3 A:=by
 have hm:=(arMay_iff A).1 h;have hd:∀ i,i<3->dvMay (dev A i)=true:=fun i hi=>hm.2.1 _ (WU A i (by rw[hm.1]; exact hi))
 refine⟨by omega,fun i hi=>?_,fun i hi s hs=>?_⟩
 ·have:=((ZG _).1 (hd i hi)).1
  omega
 ·have:=((ZG _).1 (hd i hi)).2 s hs
  omega
theorem Z8 {w:World} {a:Option Addr} {n:Nat} {A:Ar} (H:Z5 w a n A) (h:Z2 A=true):n=3∧∃ b o hd,a=some ⟨b,o,none⟩∧Arr w b o 3 hd A:=by
 have hm:=(arMay_iff A).1 h
 rcases H with ⟨_,h1⟩ | ⟨b,o,hd,rfl,H⟩
 ·rw[h1] at hm; cases hm.1
 ·obtain rfl:n=3:=by rw[H.sn]; exact hm.1
  exact⟨rfl,b,o,hd,rfl,H⟩
theorem Z4.store0 {w:World} {b n:Nat} {h:Nat->Hd} {A:Ar} (H:Z4 w b 0 n h A) (i:Nat) (hi:i<n) (d:Hd) (D:Dv) (hD:Zc w d.x d.p d.y d.q D):
  (w.cell? ⟨b,i*2,none⟩=some (.slice (h i).x (h i).p (h i).c)∧w.cell? ⟨b,i*2+1,none⟩=some (.slice (h i).y (h i).q (h i).d)∧w.frozen? ⟨b,i*2,none⟩=false∧w.frozen? ⟨b,i*2+1,none⟩=false) ∧
  Z4 ((w.setCell ⟨b,i*2,none⟩ (.slice d.x d.p d.c)).setCell ⟨b,i*2+1,none⟩ (.slice d.y d.q d.d)) b 0 n (setH h i d) (A.set i D)∧w.grownBy ((w.setCell ⟨b,i*2,none⟩ (.slice d.x d.p d.c)).setCell ⟨b,i*2+1,none⟩ (.slice d.y d.q d.d)) (some b):=by
 have k:=H.store i hi d D hD;have c0:=H.arr.c0 i hi;have c1:=H.arr.c1 i hi;rw[Nat.zero_add] at k c0 c1;exact⟨⟨c0,c1,H.free _,H.free _⟩,k⟩
def nilH:Hd:=⟨none,0,0,none,0,0⟩
theorem Z8g (n i:Nat):dev (List.replicate n nil2) i=nil2:=by
 unfold dev;rw[List.getElem?_replicate]
 split <;> rfl
theorem JT (w:World) (n:Nat) (hn:n<=maxLen):Z4 (w.alloc (.cells (List.replicate (n*2) (.slice none 0 0)).toArray 56)) w.heap.size 0 n (fun _=>nilH) (List.replicate n nil2):=by
 have ho:=Own.made w 56 (List.replicate (n*2) (.slice none 0 0));refine⟨⟨by simp,hn,ho.lt,fun i hi=>?_,fun i hi=>?_,fun i hi=>?_⟩,fun j=>ho.free j⟩
 ·exact ho.cell (by rw[List.getElem?_replicate,if_pos (by omega)]; rfl)
 ·exact ho.cell (by rw[List.getElem?_replicate,if_pos (by omega)]; rfl)
 ·rw[Z8g]; exact devAt_none _
theorem JS (n:Nat) (hn:48*n<=281474976710656) (w:World):
  (Instr.makeSlice 24 (.int .i64 (n:Int)) (.int .i64 (n:Int))).run Tryz.prog w=.ok (.slice (some ⟨w.heap.size,0,none⟩) n n) (w.alloc (.cells (List.replicate (n*2) (.slice none 0 0)).toArray 56)):=by
 obtain⟨i,hi,hzz⟩:=Option.map_eq_some_iff.1 Z26;simp only[Prod.mk.injEq] at hzz
 obtain⟨hz,hs,hb⟩:=hzz;have hr:=run_make (P:=Tryz.prog) w 24 56 i _ Tryz.underlying24 hi hz .i64 .i64 n n (by omega) (Int.le_refl _) (by rw[hb]; omega) (by omega)
 simp only[Int.toNat_natCast,hs] at hr
 rw[hr]
 congr 3
 apply Array.ext'
 apply List.ext_getElem
 ·simp[madeCells]
 ·intro j h1 h2
  have:j % 2=0∨j % 2=1:=by omega
  rcases this with e | e <;> simp[madeCells,Value.cells,e]
def upTo (A:Ar) (n k:Nat):Ar:=A.take k++List.replicate (n-k) nil2
theorem QZ (A:Ar) (n:Nat):upTo A n 0=List.replicate n nil2:=by simp[upTo]
theorem Z1C (A:Ar) (n:Nat) (h:n=A.length):upTo A n n=A:=by simp[upTo,h]
theorem Z3Q (A:Ar) (n k:Nat) (hn:n=A.length) (h:k<n):(upTo A n k).set k (dev A k)=upTo A n (k+1):=by
 unfold upTo;rw[List.set_append_right _ _ (by simp; omega),show n-k=(n-(k+1))+1 by omega,List.replicate_succ]
 have e:k-(List.take k A).length=0:=by simp; omega
 rw[e,List.set_cons_zero,List.take_succ_eq_append_getElem (by omega),Z7j A k (by omega),List.append_assoc]
 rfl
structure Fill (w:World) (p n:Nat) (A:Ar) (h:Nat->Hd) (k:Nat) (W:World):Prop where
 rc:W.cell? ⟨p,0,none⟩=some (.slice none 0 0)
 rf:W.frozen? ⟨p,0,none⟩=false
 cb:W.cell? ⟨p+1+1,0,none⟩=some (.slice (some ⟨p+1,0,none⟩) n n)
 fr:Z4 W (p+1) 0 n h (upTo A n k)
 lt:p+3<=W.heap.size
 ge:w.heap.size<=p
 below:Below w.heap.size w W
section
variable {w W W':World} {p n:Nat} {A:Ar} {h:Nat->Hd} {k:Nat}
theorem Fill.to (H:Fill w p n A h k W) (g:Below W.heap.size W W'):Fill w p n A h k W':=by
 have l:=H.lt;exact⟨(g.cell (p:=⟨p,0,none⟩) (by show p<_; omega)).trans H.rc,(g.frozen (p:=⟨p,0,none⟩) (by show p<_; omega)).trans H.rf,(g.cell (p:=⟨p+1+1,0,none⟩) (by show p+1+1<_; omega)).trans H.cb,H.fr.below g,Nat.le_trans l g.size,H.ge,H.below.trans (g.mono H.below.size)⟩
theorem Fill.step (H:Fill w p n A h k W) (hn:n=A.length) (hk:k<n) (d:Hd) (hD:Zc W d.x d.p d.y d.q (dev A k)):
  Fill w p n A (setH h k d) (k+1) ((W.setCell ⟨p+1,k*2,none⟩ (.slice d.x d.p d.c)).setCell ⟨p+1,k*2+1,none⟩ (.slice d.y d.q d.d)):=by
 obtain⟨_,k1,k2⟩:=H.fr.store0 k hk d _ hD;have l:=H.lt;have ge:=H.ge;have o1:=Yo k2 H.rc (by omega) (by omega)
 have o2:=Yo k2 H.cb (by omega) (by omega)
 refine⟨o1,?_,o2,?_,by have:=k2.size; omega,H.ge,?_⟩
 ·rw[World.frozen?_setCell,World.frozen?_setCell]; exact H.rf
 ·rw[<- Z3Q A n k hn hk]; exact k1
 ·exact (H.below.setCell (p:=⟨p+1,k*2,none⟩) (by show w.heap.size<=p+1; omega) _).setCell (p:=⟨p+1,k*2+1,none⟩) (by show w.heap.size<=p+1; omega) _
end
structure WrI (w:World) (pr pc b cc:Nat) (A:Ar) (W:World):Prop where
 rc:W.cell? ⟨pr,0,none⟩=some (.slice none 0 0)
 rf:W.frozen? ⟨pr,0,none⟩=false
 cb:W.cell? ⟨pc,0,none⟩=some (.slice (some ⟨b,0,none⟩) 3 cc)
 fr:∃ h,Z4 W b 0 3 h A
 ge:w.heap.size<=pr∧w.heap.size<=b
 ne:pr≠b∧pc≠b
 lt:pr<W.heap.size∧pc<W.heap.size∧pr<pc
 below:Below w.heap.size w W
section
variable {w W W':World} {pr pc b cc:Nat} {A A':Ar}
theorem WrI.grown (H:WrI w pr pc b cc A W) (g:W.grownBy W' (some b)) (hf:∃ h,Z4 W' b 0 3 h A'):WrI w pr pc b cc A' W':=by
 refine⟨Yo g H.rc H.lt.1 H.ne.1,?_,Yo g H.cb H.lt.2.1 H.ne.2,hf,H.ge,H.ne,⟨Nat.lt_of_lt_of_le H.lt.1 g.size,Nat.lt_of_lt_of_le H.lt.2.1 g.size,H.lt.2.2⟩,?_⟩
 ·exact (World.frozen?_of_block (a:=⟨pr,0,none⟩) (g.block pr H.lt.1 (fun e=>H.ne.1 (Option.some.inj e)))).trans H.rf
 ·exact H.below.grown g H.below.size (fun k hk=>by cases hk; exact H.ge.2)
theorem WrI.to (H:WrI w pr pc b cc A W) (g:Below W.heap.size W W'):WrI w pr pc b cc A W':=H.grown (ZC g) (by obtain⟨h,hh⟩:=H.fr; exact⟨h,hh.below g⟩)
theorem WrI.drew (H:WrI w pr pc b cc A W):WrI w pr pc b cc A W.drew:=H.to ((Below.refl _ W).drew)
theorem WrI.out (H:WrI w pr pc b cc A W):OutA w (A,0) (.returned (.tuple #[.agg #[.slice (some ⟨b,0,none⟩) 3 cc],.int .i64 0])) (W.setCell ⟨pr,0,none⟩ (.slice (some ⟨b,0,none⟩) 3 cc)):=by
 obtain⟨h,hh⟩:=H.fr;exact⟨⟨_,3,cc,rfl,.inr ⟨b,h,rfl,H.ge.2,hh.box H.ne.1 H.rc _⟩⟩,H.below.setCell (p:=⟨pr,0,none⟩) H.ge.1 _⟩
end
theorem XJ {w W w2:World} {pr b cc:Nat} {h:Nat->Hd} {A:Ar} (hB:Below w.heap.size w W) (hp:w.heap.size<=pr) (hlt:pr<W.heap.size) (rc:W.cell? ⟨pr,0,none⟩=some (.slice none 0 0)) (rf:W.frozen? ⟨pr,0,none⟩=false) (g:Below W.heap.size W w2) (hb:W.heap.size<=b) (hf:Z4 w2 b 0 3 h A):
  WrI w pr w2.heap.size b cc A (w2.alloc (.cells #[.slice (some ⟨b,0,none⟩) 3 cc] 26)):=by
 have ga:Below w2.heap.size w2 (w2.alloc (.cells #[.slice (some ⟨b,0,none⟩) 3 cc] 26)):=(Below.refl _ w2).alloc (Nat.le_refl _) _;have gg:Below W.heap.size W (w2.alloc (.cells #[.slice (some ⟨b,0,none⟩) 3 cc] 26)):=bel3 g ga;have l2:=hf.arr.lt
 have:=g.size
 have:=hB.size
 refine⟨(gg.cell (p:=⟨pr,0,none⟩) hlt).trans rc,(gg.frozen (p:=⟨pr,0,none⟩) hlt).trans rf,by simp,⟨h,hf.below ga⟩,⟨hp,by omega⟩,⟨by omega,by omega⟩,⟨?_,?_,by omega⟩,bel3 hB gg⟩
 ·have:=ga.size; omega
 ·simp
end Go.Proofs.YtdnacpbgodooaaaGreatDoor
namespace Go.Proofs.YtdnacpbgodooaaaGreatDoor
open Go.RowKit Go.Lib
structure YP (w:World) (a:Option Addr) (n:Nat) (L:List Bk):Prop where
 sn:n=L.length
 nb:n<=maxLen
 c:∀ i,i<n->∃ b o,a=some ⟨b,o,none⟩∧b<w.heap.size∧w.cell? ⟨b,o+i*2,none⟩=some (.int .i64 (bk L i).f)∧w.cell? ⟨b,o+i*2+1,none⟩=some (.int .i64 (bk L i).n)
structure YT (w:World) (a:Option Addr) (n:Nat) (E:List En):Prop where
 sn:n=E.length
 nb:n<=maxLen
 nm:∀ i,i<n->(en E i).s.size<=maxLen
 c:∀ i,i<n->∃ b o,a=some ⟨b,o,none⟩∧b<w.heap.size∧w.cell? ⟨b,o+i*4,none⟩=some (.string (en E i).s)∧w.cell? ⟨b,o+i*4+1,none⟩=some (.int .i64 (en E i).b)∧w.cell? ⟨b,o+i*4+2,none⟩=some (.int .i64 (en E i).a)∧w.cell? ⟨b,o+i*4+3,none⟩=some (.int .i64 (en E i).n)
structure ZW (w:World) (a:Option Addr) (n c:Nat) (a':Option Addr) (m:Nat) (C:Ct):Prop where
 cap:n<=c
 B:YP w a n C.1
 E:YT w a' m C.2
section
variable {w w':World} {a a':Option Addr} {n m:Nat} {L:List Bk} {E:List En} {C:Ct}
theorem YP.below (h:YP w a n L) (g:Below w.heap.size w w'):YP w' a n L:=by
 refine⟨h.sn,h.nb,fun i hi=>?_⟩
 obtain⟨b,o,e,hb,c0,c1⟩:=h.c i hi;exact⟨b,o,e,Nat.lt_of_lt_of_le hb g.size,(g.cell (p:=⟨b,o+i*2,none⟩) hb).trans c0,(g.cell (p:=⟨b,o+i*2+1,none⟩) hb).trans c1⟩
theorem YT.below (h:YT w a n E) (g:Below w.heap.size w w'):YT w' a n E:=by
 refine⟨h.sn,h.nb,h.nm,fun i hi=>?_⟩
 obtain⟨b,o,e,hb,c0,c1,c2,c3⟩:=h.c i hi;exact⟨b,o,e,Nat.lt_of_lt_of_le hb g.size,(g.cell (p:=⟨b,o+i*4,none⟩) hb).trans c0,(g.cell (p:=⟨b,o+i*4+1,none⟩) hb).trans c1,(g.cell (p:=⟨b,o+i*4+2,none⟩) hb).trans c2,(g.cell (p:=⟨b,o+i*4+3,none⟩) hb).trans c3⟩
theorem ZW.below {c:Nat} (h:ZW w a n c a' m C) (g:Below w.heap.size w w'):ZW w' a n c a' m C:=⟨h.cap,h.B.below g,h.E.below g⟩
theorem YP.take (h:YP w a n L) (k:Nat) (hk:k<=n):YP w a k (L.take k):=by
 refine⟨by rw[List.length_take,<- h.sn]; omega,Nat.le_trans hk h.nb,fun i hi=>?_⟩
 have e:bk (L.take k) i=bk L i:=by simp[bk,hi]
 rw[e];exact h.c i (by omega)
theorem blkAt_none (w:World) (a:Option Addr):YP w a 0 []:=⟨rfl,Nat.zero_le _,fun _ hi=>absurd hi (Nat.not_lt_zero _)⟩
theorem entAt_none (w:World) (a:Option Addr):YT w a 0 []:=⟨rfl,Nat.zero_le _,fun _ hi=>absurd hi (Nat.not_lt_zero _),fun _ hi=>absurd hi (Nat.not_lt_zero _)⟩
theorem ZT (w:World) (a a':Option Addr) (c:Nat):ZW w a 0 c a' 0 nilC:=⟨Nat.zero_le _,blkAt_none w a,entAt_none w a'⟩
end
end Go.Proofs.YtdnacpbgodooaaaGreatDoor
namespace Go.Proofs.YtdnacpbgodooaaaGreatDoor
open Go.RowKit Go.Lib
def blkC (b:Bk):List Value:=[.int .i64 b.f,.int .i64 b.n]
def entC (x:En):List Value:=[.string x.s,.int .i64 x.b,.int .i64 x.a,.int .i64 x.n]
def blkV (L:List Bk):List Value:=L.flatMap blkC
def entV (E:List En):List Value:=E.flatMap entC
theorem Z0e (b:Bk) (L:List Bk):blkV (b::L)=.int .i64 b.f::.int .i64 b.n::blkV L:=rfl
theorem entV_cons (x:En) (E:List En):entV (x::E)=.string x.s::.int .i64 x.b::.int .i64 x.a::.int .i64 x.n::entV E:=rfl
theorem Z2u (L M:List Bk):blkV (L++M)=blkV L++blkV M:=List.flatMap_append
theorem QB (L M:List En):entV (L++M)=entV L++entV M:=List.flatMap_append
theorem Wz (L:List Bk):(blkV L).length=L.length*2:=by
 induction L with
 | nil=>rfl
 | cons b L ih=>rw[Z0e]; simp only[List.length_cons,ih]; omega
theorem Wu (E:List En):(entV E).length=E.length*4:=by
 induction E with
 | nil=>rfl
 | cons b L ih=>rw[entV_cons]; simp only[List.length_cons,ih]; omega
theorem Z8m (b:Bk) (L:List Bk) (i:Nat):bk (b::L) (i+1)=bk L i:=by simp[bk]
theorem Z88 (b:En) (L:List En) (i:Nat):en (b::L) (i+1)=en L i:=by simp[en]
theorem QJ (L:List Bk) (i:Nat) (h:i<L.length):(blkV L)[i*2]?=some (.int .i64 (bk L i).f)∧(blkV L)[i*2+1]?=some (.int .i64 (bk L i).n):=by
 induction L generalizing i with
 | nil=>simp at h
 | cons b L ih=>
  rw[Z0e];cases i with
  | zero=>exact⟨rfl,rfl⟩
  | succ i=>
   rw[Z8m,show (i+1)*2=i*2+1+1 by omega]
   simp only[List.getElem?_cons_succ]
   exact ih i (by simpa using h)
theorem Wg (E:List En) (i:Nat) (h:i<E.length):(entV E)[i*4]?=some (.string (en E i).s)∧(entV E)[i*4+1]?=some (.int .i64 (en E i).b)∧(entV E)[i*4+2]?=some (.int .i64 (en E i).a)∧(entV E)[i*4+3]?=some (.int .i64 (en E i).n):=by
 induction E generalizing i with
 | nil=>simp at h
 | cons b L ih=>
  rw[entV_cons];cases i with
  | zero=>exact⟨rfl,rfl,rfl,rfl⟩
  | succ i=>
   rw[Z88,show (i+1)*4=i*4+1+1+1+1 by omega]
   have:=ih i (by simpa using h)
   exact this
theorem QI (L:List Bk) (j:Nat) (v:Value) (h:(blkV L)[j]?=some v):∃ i,i<L.length∧((j=i*2∧v=.int .i64 (bk L i).f)∨(j=i*2+1∧v=.int .i64 (bk L i).n)):=by
 have hj:j<L.length*2:=by
  rcases Nat.lt_or_ge j (L.length*2) with h1 | h1
  ·exact h1
  ·rw[List.getElem?_eq_none (by rw[Wz]; exact h1)] at h; cases h
 obtain⟨a0,a1⟩:=QJ L (j / 2) (by omega)
 refine⟨j / 2,by omega,?_⟩
 rcases Nat.mod_two_eq_zero_or_one j with e | e
 ·left
  have e2:j=j / 2*2:=by omega
  rw[<- e2,h] at a0;exact⟨e2,Option.some.inj a0⟩
 ·right
  have e2:j=j / 2*2+1:=by omega
  rw[<- e2,h] at a1;exact⟨e2,Option.some.inj a1⟩
theorem YE (L:List Bk):∀ v∈blkV L,v.oneCell'=true:=by
 intro v hv;obtain⟨j,hj⟩:=List.getElem?_of_mem hv
 obtain⟨i,_,⟨_,rfl⟩ | ⟨_,rfl⟩⟩:=QI L j v hj <;> rfl
theorem WQ (x:En):∀ v∈entC x,v.oneCell'=true:=by
 intro v hv;simp only[entC,List.mem_cons,List.not_mem_nil,or_false] at hv
 rcases hv with rfl | rfl | rfl | rfl <;> rfl
section
variable {w:World} {b:Nat} {t:TypeId} {a:Option Addr} {n:Nat}
theorem Own.blkAt {L:List Bk} (h:Own w b t (blkV L)) (hn:L.length<=maxLen):YP w (some ⟨b,0,none⟩) L.length L:=by
 refine⟨rfl,hn,fun i hi=>⟨b,0,rfl,h.lt,?_,?_⟩⟩
 ·rw[Nat.zero_add]; exact h.cell (QJ L i hi).1
 ·rw[Nat.zero_add]; exact h.cell (QJ L i hi).2
theorem Own.entAt {E:List En} (h:Own w b t (entV E)) (hn:E.length<=maxLen) (hs:∀ i,i<E.length->(en E i).s.size<=maxLen):YT w (some ⟨b,0,none⟩) E.length E:=by
 refine⟨rfl,hn,hs,fun i hi=>⟨b,0,rfl,h.lt,?_,?_,?_,?_⟩⟩
 ·rw[Nat.zero_add]; exact h.cell (Wg E i hi).1
 ·rw[Nat.zero_add]; exact h.cell (Wg E i hi).2.1
 ·rw[Nat.zero_add]; exact h.cell (Wg E i hi).2.2.1
 ·rw[Nat.zero_add]; exact h.cell (Wg E i hi).2.2.2
theorem YP.row {L:List Bk} {o:Nat} (h:YP w (some ⟨b,o,none⟩) n L):∀ j v,(blkV L)[j]?=some v->w.cell? ((⟨b,o,none⟩:Addr).add j)=some v:=by
 intro j v hv;obtain⟨i,hi,q⟩:=QI L j v hv;obtain⟨b2,o2,e,_,c0,c1⟩:=h.c i (by rw[h.sn]; exact hi)
 cases e
 rw[Addr.add_lit]
 rcases q with ⟨rfl,rfl⟩ | ⟨rfl,rfl⟩
 ·exact c0
 ·rw[<- Nat.add_assoc]; exact c1
end
theorem Vg:(Tryz.prog.info? 100).map (fun i=>(i.zero,i.size,i.bytes))=some (some (.agg #[.int .i64 0,.int .i64 0]),2,16):=by kernel_rfl
theorem Vf:(Tryz.prog.info? 95).map (fun i=>(i.zero,i.size,i.bytes))=some (some (.agg #[.string ⟨#[]⟩,.int .i64 0,.int .i64 0,.int .i64 0]),4,40):=by kernel_rfl
theorem Q8 {P:Program} (w:World) (dT sT ty elem:TypeId) (size:Nat) (g dLen dCap:Nat) (a:Addr) (sCap:Nat) (cur:Array Value) (t:TypeId) (cs:List Value)
  (hu:P.underlying dT=some (.slice elem)) (hs:(P.info? elem).map (·.size)=some size)
  (hg:w.heap[g]?=some (.cells cur t (0,0))) (hn:cs.length=dLen*size)
  (hsrc:∀ j v,cs[j]?=some v->w.cell? (a.add j)=some v) (hfit:cs.length<=cur.size) (h1:∀ v∈cs,v.oneCell'=true):
  (Builtin.copy_ #[dT,sT] ty #[.slice (some ⟨g,0,none⟩) dLen dCap,.slice (some a) dLen sCap]).run P w =
   .ok (goInt dLen) (w.setRow g (cs++cur.toList.drop cs.length).toArray):=by
 have hl:=run_loadCells_list (P:=P) w a cs hsrc;have hst:=run_storeCells_at P g 0 t cs 0 cur w hg (by simpa using hfit) h1
 cases hq:P.info? elem with
 | none=>simp[hq] at hs
 | some i=>
  have hi:i.size=size:=by simpa[hq] using hs
  simp[Builtin.copy_,run_underlying hu,Builtin.lenOf,Builtin.firstCells,sizeOf,typeInfo,hq,hi,<- hn,hl,hst]
end Go.Proofs.YtdnacpbgodooaaaGreatDoor
namespace Go.Proofs.YtdnacpbgodooaaaGreatDoor
open Go.RowKit Go.Lib
def W0 (w:World) (base:Nat) (v:Value) (L:List Bk):Prop:=w.ownsRow base 100 2 v L.length (blkV L)
def Xv (w:World) (base:Nat) (v:Value) (E:List En):Prop:=w.ownsRow base 95 4 v E.length (entV E)
theorem ownsK_nil (w:World) (base:Nat):W0 w base (.slice none 0 0) []:=⟨rfl,.inl ⟨rfl,rfl⟩⟩
theorem ownsE_nil (w:World) (base:Nat):Xv w base (.slice none 0 0) []:=⟨rfl,.inl ⟨rfl,rfl⟩⟩
theorem Ub {w:World} {base:Nat} {ao:Option Addr} {m cap:Nat} {L:List Bk} (h:W0 w base (.slice ao m cap) L) (hL:L.length<=maxLen):m=L.length∧m<=cap∧YP w ao m L:=by
 rcases h.2 with ⟨h0,h1⟩ | ⟨g,cap',cur,h0,hb,hh,hc,hm,hs,ht⟩
 ·cases h0
  have:L=[]:=List.eq_nil_of_length_eq_zero h1
  subst this;exact⟨rfl,Nat.le_refl _,blkAt_none w none⟩
 ·cases h0
  have ho:Own w g 100 (blkV L):=⟨cur.toList.drop (L.length*2),by rw[<- ht,List.take_append_drop]; exact hh⟩
  exact⟨rfl,hc,ho.blkAt hL⟩
theorem YB {w:World} {base:Nat} {ao:Option Addr} {m cap:Nat} {E:List En} (h:Xv w base (.slice ao m cap) E) (hL:E.length<=maxLen) (hs:∀ i,i<E.length->(en E i).s.size<=maxLen):m=E.length∧m<=cap∧YT w ao m E:=by
 rcases h.2 with ⟨h0,h1⟩ | ⟨g,cap',cur,h0,hb,hh,hc,hm,hs',ht⟩
 ·cases h0
  have:E=[]:=List.eq_nil_of_length_eq_zero h1
  subst this;exact⟨rfl,Nat.le_refl _,entAt_none w none⟩
 ·cases h0
  have ho:Own w g 95 (entV E):=⟨cur.toList.drop (E.length*4),by rw[<- ht,List.take_append_drop]; exact hh⟩
  exact⟨rfl,hc,ho.entAt hL hs⟩
theorem Qm (w:World) (f n:Int) (t:TypeId):∀ j u,(blkV [⟨f,n⟩])[j]?=some u->(w.alloc (.cells #[.int .i64 f,.int .i64 n] t)).cell? ((⟨w.heap.size,0,none⟩:Addr).add j)=some u:=cell_two_new w _ _ t
theorem Wc (w:World) (x:En) (t:TypeId):∀ j u,(entV [x])[j]?=some u->(w.alloc (.cells #[.string x.s,.int .i64 x.b,.int .i64 x.a,.int .i64 x.n] t)).cell? ((⟨w.heap.size,0,none⟩:Addr).add j)=some u:=by
 intro j u hj
 match j,hj with
 | 0,hj=>simp[entV,entC] at hj; subst hj; simp[Addr.add]
 | 1,hj=>simp[entV,entC] at hj; subst hj; simp[Addr.add]
 | 2,hj=>simp[entV,entC] at hj; subst hj; simp[Addr.add]
 | 3,hj=>simp[entV,entC] at hj; subst hj; simp[Addr.add]
 | j+4,hj=>simp[entV,entC] at hj
theorem XZ (w:World) {ops:Array Oper} {rest:List Oper} {o:Oper} {a:Act} {Q:Exit->Act->World->Prop} (hgd:o.guard=none) (s x:Operand)
  (ho:o.op=.call { callee:=.builtin .append,args:=#[s,x],argTypes:=#[80,80] })
  (base:Nat) (v:Value) (L:List Bk) (hs:a.eval s=v) (hown:W0 w base v L)
  (ad:Addr) (c:Nat) (b:Bk) (hx:a.eval x=.slice (some ad) 1 c) (hnews:∀ j u,(blkV [b])[j]?=some u->w.cell? (ad.add j)=some u)
  (hbd:L.length<=100000) (hbase:base<=w.heap.size)
  (h:∀ g m cap w',Hid (m=(L++[b]).length)->base<=g->W0 w' base (.slice (some ⟨g,0,none⟩) m cap) (L++[b])->w.grownBy w' v.ownBlock->wpList Tryz.prog ops Q rest (a.put o.dst (.slice (some ⟨g,0,none⟩) m cap)) w'):
  wpList Tryz.prog ops Q (o::rest) a w:=by
 obtain⟨i0,hi,hz0,hz1,hz2⟩:=info_parts Vg;refine wpList_append_own w hgd s x 80 ho base 100 i0 _ 2 16 Tryz.underlying80 hi hz0 hz1 hz2 rfl (by decide) v L.length (blkV L) hs hown ad 1 c (blkV [b]) hx rfl hnews (YE [b]) (by unfold maxLen; omega) (by omega) hbase ?_
 intro v' w' h1 h2 _;have h1':w'.ownsRow base 100 2 v' (L++[b]).length (blkV (L++[b])):=by rw[Z2u,List.length_append]; exact h1
 obtain⟨g,cap,rfl,hg⟩:=Zb h1' (by simp)
 exact h g _ cap w' rfl hg h1' h2
theorem Zx (w:World) {ops:Array Oper} {rest:List Oper} {o:Oper} {a:Act} {Q:Exit->Act->World->Prop} (hgd:o.guard=none) (s x:Operand)
  (ho:o.op=.call { callee:=.builtin .append,args:=#[s,x],argTypes:=#[81,81] })
  (base:Nat) (v:Value) (L:List En) (hs:a.eval s=v) (hown:Xv w base v L)
  (ad:Addr) (c:Nat) (b:En) (hx:a.eval x=.slice (some ad) 1 c) (hnews:∀ j u,(entV [b])[j]?=some u->w.cell? (ad.add j)=some u)
  (hbd:L.length<=100000) (hbase:base<=w.heap.size)
  (h:∀ g m cap w',Hid (m=(L++[b]).length)->base<=g->Xv w' base (.slice (some ⟨g,0,none⟩) m cap) (L++[b])->w.grownBy w' v.ownBlock->wpList Tryz.prog ops Q rest (a.put o.dst (.slice (some ⟨g,0,none⟩) m cap)) w'):
  wpList Tryz.prog ops Q (o::rest) a w:=by
 obtain⟨i0,hi,hz0,hz1,hz2⟩:=info_parts Vf;refine wpList_append_own w hgd s x 81 ho base 95 i0 _ 4 40 Tryz.underlying81 hi hz0 hz1 hz2 rfl (by decide) v L.length (entV L) hs hown ad 1 c (entV [b]) hx rfl hnews (by rw[show entV [b]=entC b by simp[entV]]; exact WQ b) (by unfold maxLen; omega) (by omega) hbase ?_
 intro v' w' h1 h2 _;have h1':w'.ownsRow base 95 4 v' (L++[b]).length (entV (L++[b])):=by rw[QB,List.length_append]; exact h1
 obtain⟨g,cap,rfl,hg⟩:=Zb h1' (by simp)
 exact h g _ cap w' rfl hg h1' h2
end Go.Proofs.YtdnacpbgodooaaaGreatDoor
