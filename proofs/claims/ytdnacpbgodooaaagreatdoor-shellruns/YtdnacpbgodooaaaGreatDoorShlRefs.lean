import Derived.Test.YtdnacpbgodooaaaGreatDoorShlAll
import Derived.Test.YtdnacpbgodooaaaGreatDoorRefAdds
import Derived.Test.YtdnacpbgodooaaaGreatDoorRefNew
import Derived.Test.YtdnacpbgodooaaaGreatDoorRefHeal
import Derived.Test.YtdnacpbgodooaaaGreatDoorSameT
set_option maxRecDepth 40000
set_option maxHeartbeats 3200000
namespace Go.Proofs.YtdnacpbgodooaaaGreatDoor
open Go.RowKit Go.Lib Go.Deep Go.ChangeShapes Go.WideShapes
section
variable {H:Type} {enc:TypeId × Value->H} {W:World}
theorem Z3b {fuel:Nat} {cv:Value} {y:DataW H × List MemPlace} (h:DataW.trod enc Tryz.prog W 0 (fun _=>true) true fuel 44 [cv]=some y):
  ∃ (a:Option Addr) (n c:Nat) (F:List Fi),cv=.slice a n c∧n<=c∧ZV W a n F:=by
 rcases open_slice_pairs Tryz.underlying44 Tryz.underlying113 (by kernel_rfl) (by kernel_rfl) (by kernel_rfl) (by kernel_rfl) (by kernel_rfl) h with ⟨hc,_⟩ | ⟨a,len,cap,m,k,V0,V1,D0,D1,P0,P1,hc,_,hl,hm,hmm,hd,hx⟩
 ·cases hc
  exact⟨none,0,0,[],rfl,Nat.le_refl _,filAt_none W none⟩
 ·cases hc
  simp only[if_true] at hmm
  subst hmm;have each:∀ i,i<len->∃ q:Fi,(V0 i=.string q.s∧V1 i=.string q.d)∧q.s.size<=maxLen∧q.d.size<=maxLen:=by
   intro i hi;obtain⟨_,_,t0,t1⟩:=hx i (by omega)
   have t0':DataW.trod enc Tryz.prog W 0 (fun _=>true) true k 9 [V0 i]=some (D0 i,P0 i):=t0
   have t1':DataW.trod enc Tryz.prog W 0 (fun _=>true) true k 9 [V1 i]=some (D1 i,P1 i):=t1
   obtain⟨s0,q0,_,w0⟩:=DataW.trod_string Tryz.underlying9 t0';obtain⟨s1,q1,_,w1⟩:=DataW.trod_string Tryz.underlying9 t1';exact⟨⟨s0,s1⟩,⟨by simpa using q0,by simpa using q1⟩,w0,w1⟩
  have:Inhabited Fi:=⟨nilF⟩
  obtain⟨q,hq⟩:=choose_lt each;have hA:∀ i,i<len->fi ((List.range len).map q) i=q i:=fun i hi=>by simp[fi,hi]
  refine⟨some a,len,m,(List.range len).map q,rfl,hl,⟨by simp,by omega,fun i hi=>by rw[hA i hi]; exact (hq i hi).2,fun i hi=>?_⟩⟩
  obtain⟨g0,g1,_,_⟩:=hx i (by omega)
  have g00:=(hx 0 (by omega)).1
  obtain⟨hs,hb⟩:=TP g00;obtain⟨b,o,s⟩:=a;cases hs
  rw[Addr.add_lit,(hq i hi).1.1] at g0;rw[Addr.add_lit,(hq i hi).1.2] at g1;exact⟨b,o,rfl,hb,by rw[hA i hi]; exact g0,by rw[hA i hi]; exact g1⟩
theorem Z4v {base:Nat} {v:Value} {d:DataW H} {p:List MemPlace} (hval:Value.okWide Tryz.prog W .any base 22 v) (h:DataW.Trod enc Tryz.prog W 0 (fun _=>true) true 22 v d p):
  ∃ (a:Option Addr) (n c:Nat) (L:List Ax),v=.slice a n c∧(n<=c∧WD W a n L)∧((∀ x∈d.weights Tryz.prog 22,x<=reachBytes)->n*80<=reachBytes):=by
 obtain⟨a,n,c,rfl⟩:=okWide_slice Tryz.underlying22 hval;obtain⟨fuel,hf⟩:=h
 rcases open_slice Tryz.underlying22 hf with ⟨hc,_⟩ | ⟨a,len,cap,m,k,D,Pl,hc,_,hl,hm,hmm,hd,hx⟩
 ·simp[Value.cells] at hc
  obtain⟨rfl,rfl,rfl⟩:=hc;exact⟨none,0,0,[],rfl,⟨Nat.le_refl _,actAt_none W none⟩,fun _=>Nat.zero_le _⟩
 ·simp[Value.cells] at hc
  obtain⟨rfl,rfl,rfl⟩:=hc;simp only[if_true] at hmm
  subst hmm;have each:∀ i,i<n->∃ q:Ax,AxOk W q∧∀ j u,(axC q)[j]?=some u->W.cell? (a.add (i*7+j))=some u:=by
   intro i hi;obtain⟨cs,h1,h2⟩:=hx i (by omega)
   rw[show Tryz.prog.cellsOf 46=7 by kernel_rfl] at h1
   obtain⟨_,hlen,hcell⟩:=World.cells?_some h1
   obtain⟨xs,k2,hk,hxy,_,hxl,hf⟩:=DataW.trod_struct Tryz.underlying46 h2
   match cs,hlen,xs,hxl with
   | [v0,v1,v2,v3,v4,v5,v6],_,[y0,y1,y2,y3,y4,y5,y6],_=>
    have e0:=hcell 0 (by omega)
    have e1:=hcell 1 (by omega)
    have e2:=hcell 2 (by omega)
    have e3:=hcell 3 (by omega)
    have e4:=hcell 4 (by omega)
    have e5:=hcell 5 (by omega)
    have e6:=hcell 6 (by omega)
    rw[add_add] at e0 e1 e2 e3 e4 e5 e6;have g0:DataW.trod enc Tryz.prog W 0 (fun _=>true) true k2 3 [v0]=some y0:=hf 0 _ rfl
    have g1:DataW.trod enc Tryz.prog W 0 (fun _=>true) true k2 44 [v1]=some y1:=hf 1 _ rfl
    have g2:DataW.trod enc Tryz.prog W 0 (fun _=>true) true k2 9 [v2]=some y2:=hf 2 _ rfl
    have g3:DataW.trod enc Tryz.prog W 0 (fun _=>true) true k2 3 [v3]=some y3:=hf 3 _ rfl
    have g4:DataW.trod enc Tryz.prog W 0 (fun _=>true) true k2 3 [v4]=some y4:=hf 4 _ rfl
    have g5:DataW.trod enc Tryz.prog W 0 (fun _=>true) true k2 3 [v5]=some y5:=hf 5 _ rfl
    have g6:DataW.trod enc Tryz.prog W 0 (fun _=>true) true k2 3 [v6]=some y6:=hf 6 _ rfl
    obtain⟨n0,q0,_,_⟩:=DataW.trod_int Tryz.underlying3 g0;obtain⟨fa,fn,fc,F,q1,f1,f2⟩:=Z3b g1;obtain⟨s2,q2,_,w2⟩:=DataW.trod_string Tryz.underlying9 g2;obtain⟨n3,q3,_,_⟩:=DataW.trod_int Tryz.underlying3 g3;obtain⟨n4,q4,_,_⟩:=DataW.trod_int Tryz.underlying3 g4;obtain⟨n5,q5,_,_⟩:=DataW.trod_int Tryz.underlying3 g5;obtain⟨n6,q6,_,_⟩:=DataW.trod_int Tryz.underlying3 g6;cases q0; cases q1; cases q2; cases q3; cases q4; cases q5; cases q6
    refine⟨⟨⟨n0,F,s2,n3,n4,n5,n6⟩,⟨fa,fn,fc⟩⟩,⟨⟨f1,f2⟩,w2⟩,fun j u hj=>?_⟩
    match j,hj with
    | 0,hj=>simp[axC] at hj; subst hj; simpa using e0
    | 1,hj=>simp[axC] at hj; subst hj; simpa using e1
    | 2,hj=>simp[axC] at hj; subst hj; simpa using e2
    | 3,hj=>simp[axC] at hj; subst hj; simpa using e3
    | 4,hj=>simp[axC] at hj; subst hj; simpa using e4
    | 5,hj=>simp[axC] at hj; subst hj; simpa using e5
    | 6,hj=>simp[axC] at hj; subst hj; simpa using e6
    | j+7,hj=>simp[axC] at hj
  have:Inhabited Ax:=⟨⟨⟨0,[],⟨#[]⟩,0,0,0,0⟩,nilS⟩⟩
  obtain⟨q,hq⟩:=choose_lt each;refine⟨some a,n,m,(List.range n).map q,rfl,⟨hl,⟨by simp,by omega,?_,fun x hx=>?_⟩⟩,fun hw=>?_⟩
  ·by_cases h0:n=0
   ·subst h0
    exact Zd.nil
   ·have g00:=(hq 0 (by omega)).2 0 _ rfl
    have hsb:=TP g00;obtain⟨b,o,s⟩:=a;obtain⟨hs,hb⟩:=hsb;cases hs
    intro j v hv;have hj:j<n*7:=by
     rcases Nat.lt_or_ge j (n*7) with h1 | h1
     ·exact h1
     ·rw[List.getElem?_eq_none (by rw[Z5I]; simpa using h1)] at hv; cases hv
    have hi:j / 7<n:=by omega
    have hj2:j / 7*7+j % 7=j:=by omega
    have hf:=Z5i axC 7 Z1v ((List.range n).map q) (j / 7) (j % 7) (q (j / 7)) (by simp[hi]) (by omega)
    rw[hj2] at hf;have hv':(axC (q (j / 7)))[j % 7]?=some v:=by rw[<- hf]; exact hv
    have:=(hq (j / 7) hi).2 (j % 7) v hv'
    rw[hj2,Addr.add_lit] at this;exact⟨b,o,rfl,hb,this⟩
  ·obtain⟨i,hi,rfl⟩:=List.mem_map.1 hx
   exact (hq i (List.mem_range.1 hi)).1
  ·simp only[Prod.mk.injEq] at hd
   obtain⟨rfl,_⟩:=hd
   have:=hw ((n+(m-n))*Tryz.prog.bytesOf 46) (by simp[DataW.weights,Tryz.underlying22])
   rw[show Tryz.prog.bytesOf 46=80 by kernel_rfl] at this
   omega
end
end Go.Proofs.YtdnacpbgodooaaaGreatDoor
namespace Go.Proofs.YtdnacpbgodooaaaGreatDoor
open Go.RowKit Go.Lib
theorem Z7e:True:=trivial
abbrev Rf:=SeT 49
def zero3:List Value:=[.slice none 0 0,.int .i64 0,.int .i64 0]
structure RdI (w:World) (h:Ha) (q:Ax) (x:Nx) (W:World):Prop where
 se:Rf W w.heap.size h
 ax:Own W (w.heap.size+1) 46 (axC q)
 rh:Own W (w.heap.size+1+1) 49 zero3
 ra:Own W (w.heap.size+1+1+1) 34 zero5
 out:Own W (w.heap.size+1+1+1+1) 34 (nxC x)
 ok:NxOk W x
 new:YO (w.heap.size+5) x
 below:Below w.heap.size w W
 lt:w.heap.size+5<=W.heap.size
def nxZ:Nx:=⟨anE 0,nilS,nilS⟩
def Wl (w:World) (r:Ha × An) (e:Ending) (w':World):Prop:=
 ∃ b o c hd x,e=.returned (.tuple #[.agg #[.slice (some ⟨b,o,none⟩) 3 c,.int .i64 r.1.nx,.int .i64 r.1.rd],nxA x])∧x.r=r.2∧(Arr w' b o 3 hd r.1.A∧Z2 r.1.A=true)∧(NxOk w' x∧YO w.heap.size x)∧Below w.heap.size w w'
section
variable {w W W':World} {h:Ha} {q:Ax} {x:Nx}
theorem RdI.to (H:RdI w h q x W) (g:Below W.heap.size W W'):RdI w h q x W':=
 ⟨H.se.below g,H.ax.below' g,H.rh.below' g,H.ra.below' g,H.out.below' g,H.ok.below g,H.new,bel3 H.below g,Nat.le_trans H.lt g.size⟩
theorem Z4o {b o c:Nat} {hd:Nat->Hd} (q:Ax) (hA:Arr w b o 3 hd h.A) (hm:Z2 h.A=true) (V:World)
  (hV:V=((((w.alloc (.cells #[.slice (some ⟨b,o,none⟩) 3 c,.int .i64 h.nx,.int .i64 h.rd] 49)).alloc (.cells (axC q).toArray 46)).alloc (.cells zero3.toArray 49)).alloc (.cells zero5.toArray 34)).alloc (.cells zero5.toArray 34)):
  RdI w h q nxZ V:=by
 have mk:∀ (w1 w2:World) (t:TypeId) (L:List Value),w2=w1.alloc (.cells L.toArray t)->Below w1.heap.size w1 w2∧Own w2 w1.heap.size t L∧w2.heap.size=w1.heap.size+1:=fun w1 w2 t L e=>by
  rw[e];exact⟨(Below.refl _ w1).alloc (Nat.le_refl _) _,Own.made w1 t L,by simp⟩
 obtain⟨V1,h1⟩:∃ V1,V1=w.alloc (.cells [Value.slice (some ⟨b,o,none⟩) 3 c,.int .i64 h.nx,.int .i64 h.rd].toArray 49):=⟨_,rfl⟩;obtain⟨V2,h2⟩:∃ V2,V2=V1.alloc (.cells (axC q).toArray 46):=⟨_,rfl⟩;obtain⟨V3,h3⟩:∃ V3,V3=V2.alloc (.cells zero3.toArray 49):=⟨_,rfl⟩;obtain⟨V4,h4⟩:∃ V4,V4=V3.alloc (.cells zero5.toArray 34):=⟨_,rfl⟩;have h5:V=V4.alloc (.cells zero5.toArray 34):=by rw[hV,h4,h3,h2,h1]
 obtain⟨g1,o1,s1⟩:=mk _ _ _ _ h1;obtain⟨g2,o2,s2⟩:=mk _ _ _ _ h2;obtain⟨g3,o3,s3⟩:=mk _ _ _ _ h3;obtain⟨g4,o4,s4⟩:=mk _ _ _ _ h4;obtain⟨g5,o5,s5⟩:=mk _ _ _ _ h5;rw[s1] at o2;rw[s2,s1] at o3;rw[s3,s2,s1] at o4;rw[s4,s3,s2,s1] at o5;have g35:=bel3 g4 g5;have g25:=bel3 g3 g35;have g15:=bel3 g2 g25;have hlt:=hA.lt;exact⟨⟨⟨b,o,c,hd,o1.below' g15,(hA.below g1).below g15,by omega⟩,hm⟩,o2.below' g25,o3.below' g35,o4.below' g5,o5,⟨Zd.nil,rfl,Nat.zero_le _,intsAt_none _ _⟩,⟨newS_nil _ _,newS_nil _ _⟩,bel3 g1 g15,by omega⟩
theorem RdI.set (H:RdI w h q x W) (i:Nat) (v:Value) (x':Nx) (u:Value) (hu:(nxC x)[i]?=some u) (hz:Zr u) (hx:(nxC x).set i v=nxC x') (ok:NxOk W x') (hn:YO (w.heap.size+5) x'):
  RdI w h q x' (W.setCell ⟨w.heap.size+1+1+1+1,i,none⟩ v):=by
 have lt:=H.lt;have hb:∀ k,k≠w.heap.size+1+1+1+1->(W.setCell ⟨w.heap.size+1+1+1+1,i,none⟩ v).heap[k]?=W.heap[k]?:=fun k hk=>Below.heap_setCell W ⟨w.heap.size+1+1+1+1,i,none⟩ v k hk
 have hil:i<(nxC x).length:=(List.getElem?_eq_some_iff.1 hu).1
 refine⟨H.se.keepz (Zv (H.out.cell hu) hz v) (hb _ (by omega)),H.ax.of_block (hb _ (by omega)),H.rh.of_block (hb _ (by omega)),H.ra.of_block (hb _ (by omega)),?_,?_,hn,H.below.setCell (by show w.heap.size<=w.heap.size+1+1+1+1; omega) v,by rw[Z3]; exact lt⟩
 ·rw[<- hx]; exact H.out.set hil v
 ·exact ok.grown (row:=some (w.heap.size+1+1+1+1)) (hn.off (fun g e=>by cases e; omega)) (Xw W ⟨w.heap.size+1+1+1+1,i,none⟩ v)
theorem RdI.hall (H:RdI w h q x W) (i:Nat) (v:Value) (h':Ha) (hs:Rf (W.setCell ⟨w.heap.size,i,none⟩ v) w.heap.size h'):RdI w h' q x (W.setCell ⟨w.heap.size,i,none⟩ v):=by
 have lt:=H.lt;have hb:∀ k,k≠w.heap.size->(W.setCell ⟨w.heap.size,i,none⟩ v).heap[k]?=W.heap[k]?:=fun k hk=>Below.heap_setCell W ⟨w.heap.size,i,none⟩ v k hk
 exact⟨hs,H.ax.of_block (hb _ (by omega)),H.rh.of_block (hb _ (by omega)),H.ra.of_block (hb _ (by omega)),H.out.of_block (hb _ (by omega)),H.ok.grown (row:=some w.heap.size) (H.new.off (fun g e=>by cases e; omega)) (Xw W ⟨w.heap.size,i,none⟩ v),H.new,H.below.setCell (Nat.le_refl _) v,by rw[Z3]; exact lt⟩
theorem Z1P {p:Nat} {t:TypeId} {u0 u1 u2:Value} (H:Own W p t [u0,u1,u2]) (v0 v1 v2:Value):
  Own (((W.setCell ⟨p,0,none⟩ v0).setCell ⟨p,1,none⟩ v1).setCell ⟨p,2,none⟩ v2) p t [v0,v1,v2]:=by
 have h0:Own _ p t [v0,u1,u2]:=H.set (i:=0) (by simp) v0
 have h1:Own _ p t [v0,v1,u2]:=h0.set (i:=1) (by simp) v1
 exact h1.set (i:=2) (by simp) v2
theorem TB {p:Nat} {t:TypeId} (H:Own W p t zero3) (v0 v1 v2:Value):WC W (((W.setCell ⟨p,0,none⟩ v0).setCell ⟨p,1,none⟩ v1).setCell ⟨p,2,none⟩ v2):=by
 have h0:Own _ p t [v0,.int .i64 0,.int .i64 0]:=H.set (i:=0) (by simp[zero3]) v0
 have h1:Own _ p t [v0,v1,.int .i64 0]:=h0.set (i:=1) (by simp) v1
 exact ((Zv (H.cell (i:=0) rfl) (.inr (.inr rfl)) v0).trans (Zv (h0.cell (i:=1) rfl) (.inl rfl) v1)).trans (Zv (h1.cell (i:=2) rfl) (.inl rfl) v2)
theorem RdI.fin (H:RdI w h q x W) (hk:WC W W') (hb:∀ k,k≠w.heap.size+1+1->k≠w.heap.size+1+1+1->W'.heap[k]?=W.heap[k]?) (b o c:Nat) (hd:Nat->Hd) (hA:Arr W b o 3 hd h.A) (ho:W'.os=W.os∧W'.tape=W.tape∧W'.output=W.output):
  Wl w (h,x.r) (.returned (.tuple #[.agg #[.slice (some ⟨b,o,none⟩) 3 c,.int .i64 h.nx,.int .i64 h.rd],nxA x])) W':=by
 have lt:=H.lt;have kb:∀ (a:Option Addr) (n:Nat) (V:List Value),V.length=n->NewS (w.heap.size+5) a n->Zd W a V->Zd W' a V:=fun a n V hn hw hr i v hv=>by
  obtain⟨b2,o2,e,hlt,hc⟩:=hr i v hv;have hi:i<V.length:=(List.getElem?_eq_some_iff.1 hv).1
  have:=hw (by omega) b2 o2 none e
  exact⟨b2,o2,e,Nat.lt_of_lt_of_le hlt hk.size,(World.cell?_of_block (a:=⟨b2,o2+i,none⟩) (hb b2 (by omega) (by omega))).trans hc⟩
 refine⟨b,o,c,hd,x,rfl,rfl,⟨hA.keepz H.se.may hk,H.se.may⟩,⟨⟨kb _ _ _ (by rw[List.length_map]; exact H.ok.sn.symm) H.new.1 H.ok.S,H.ok.sn,H.ok.sb,⟨H.ok.G.sn,H.ok.G.nb,kb _ _ _ (by rw[Zt]; exact H.ok.G.sn.symm) H.new.2 H.ok.G.R⟩⟩,H.new.1.less (by omega),H.new.2.less (by omega)⟩,⟨ho.1.trans H.below.os,ho.2.1.trans H.below.tape,ho.2.2.trans H.below.output,Nat.le_trans H.below.size hk.size,fun k hkk=>(hb k (by omega) (by omega)).trans (H.below.block k hkk)⟩⟩
theorem Wl.drew {r:Ha × An} {e:Ending} (H:Wl w r e W):Wl w r e W.drew:=by
 obtain⟨b,o,c,hd,y,h1,h2,⟨h3,h4⟩,⟨h5,h6⟩,h7⟩:=H;exact⟨b,o,c,hd,y,h1,h2,⟨h3.below (Below.refl _ _).drew,h4⟩,⟨h5.below (Below.refl _ _).drew,h6⟩,h7.drew⟩
theorem RdI.cells (H:RdI w h q x W):∃ b o c,(∃ hd,Arr W b o 3 hd h.A)∧W.cell? ⟨w.heap.size,0,none⟩=some (.slice (some ⟨b,o,none⟩) 3 c)∧W.cell? ⟨w.heap.size,1,none⟩=some (.int .i64 h.nx)∧W.cell? ⟨w.heap.size,2,none⟩=some (.int .i64 h.rd)∧W.cell? ⟨w.heap.size+1+1+1+1,0,none⟩=some (.int .i64 x.r.code)∧W.cell? ⟨w.heap.size+1+1+1+1,1,none⟩=some (.string (str x.r.data))∧W.cell? ⟨w.heap.size+1+1+1+1,2,none⟩=some (.slice x.f.a x.f.n x.f.c)∧W.cell? ⟨w.heap.size+1+1+1+1,3,none⟩=some (.int .i64 x.r.count)∧W.cell? ⟨w.heap.size+1+1+1+1,4,none⟩=some (.slice x.g.a x.g.n x.g.c)∧W.cell? ⟨w.heap.size+1+1,0,none⟩=some (.slice none 0 0)∧W.cell? ⟨w.heap.size+1+1,1,none⟩=some (.int .i64 0)∧W.cell? ⟨w.heap.size+1+1,2,none⟩=some (.int .i64 0)∧W.frozen? ⟨w.heap.size+1+1,0,none⟩=false∧W.frozen? ⟨w.heap.size+1+1,1,none⟩=false∧W.frozen? ⟨w.heap.size+1+1,2,none⟩=false∧W.cell? ⟨w.heap.size+1+1+1,0,none⟩=some (.int .i64 0)∧W.cell? ⟨w.heap.size+1+1+1,1,none⟩=some (.string ⟨#[]⟩)∧W.cell? ⟨w.heap.size+1+1+1,2,none⟩=some (.slice none 0 0)∧W.cell? ⟨w.heap.size+1+1+1,3,none⟩=some (.int .i64 0)∧W.cell? ⟨w.heap.size+1+1+1,4,none⟩=some (.slice none 0 0)∧W.frozen? ⟨w.heap.size+1+1+1,0,none⟩=false∧W.frozen? ⟨w.heap.size+1+1+1,1,none⟩=false∧W.frozen? ⟨w.heap.size+1+1+1,2,none⟩=false∧W.frozen? ⟨w.heap.size+1+1+1,3,none⟩=false∧W.frozen? ⟨w.heap.size+1+1+1,4,none⟩=false:=by
 obtain⟨b,o,c,hd,h1,h2,_⟩:=H.se.ex;exact⟨b,o,c,⟨hd,h2⟩,h1.cell (i:=0) rfl,h1.cell (i:=1) rfl,h1.cell (i:=2) rfl,H.out.cell (i:=0) rfl,H.out.cell (i:=1) rfl,H.out.cell (i:=2) rfl,H.out.cell (i:=3) rfl,H.out.cell (i:=4) rfl,H.rh.cell (i:=0) rfl,H.rh.cell (i:=1) rfl,H.rh.cell (i:=2) rfl,H.rh.free 0,H.rh.free 1,H.rh.free 2,H.ra.cell (i:=0) rfl,H.ra.cell (i:=1) rfl,H.ra.cell (i:=2) rfl,H.ra.cell (i:=3) rfl,H.ra.cell (i:=4) rfl,H.ra.free 0,H.ra.free 1,H.ra.free 2,H.ra.free 3,H.ra.free 4⟩
theorem RdI.done (H:RdI w h q x W) {b o c:Nat} (hA:∃ hd,Arr W b o 3 hd h.A) (V:World) (hV:V=(((W.setCell ⟨w.heap.size+1+1,0,none⟩ (.slice (some ⟨b,o,none⟩) 3 c)).setCell ⟨w.heap.size+1+1,1,none⟩ (.int .i64 h.nx)).setCell ⟨w.heap.size+1+1,2,none⟩ (.int .i64 h.rd))) (U:World) (hU:U=(((((V.setCell ⟨w.heap.size+1+1+1,0,none⟩ (.int .i64 x.r.code)).setCell ⟨w.heap.size+1+1+1,1,none⟩ (.string (str x.r.data))).setCell ⟨w.heap.size+1+1+1,2,none⟩ (.slice x.f.a x.f.n x.f.c)).setCell ⟨w.heap.size+1+1+1,3,none⟩ (.int .i64 x.r.count)).setCell ⟨w.heap.size+1+1+1,4,none⟩ (.slice x.g.a x.g.n x.g.c))):
  U.cell? ⟨w.heap.size+1+1,0,none⟩=some (.slice (some ⟨b,o,none⟩) 3 c)∧U.cell? ⟨w.heap.size+1+1,1,none⟩=some (.int .i64 h.nx)∧U.cell? ⟨w.heap.size+1+1,2,none⟩=some (.int .i64 h.rd)∧U.cell? ⟨w.heap.size+1+1+1,0,none⟩=some (.int .i64 x.r.code)∧U.cell? ⟨w.heap.size+1+1+1,1,none⟩=some (.string (str x.r.data))∧U.cell? ⟨w.heap.size+1+1+1,2,none⟩=some (.slice x.f.a x.f.n x.f.c)∧U.cell? ⟨w.heap.size+1+1+1,3,none⟩=some (.int .i64 x.r.count)∧U.cell? ⟨w.heap.size+1+1+1,4,none⟩=some (.slice x.g.a x.g.n x.g.c)∧Wl w (h,x.r) (.returned (.tuple #[.agg #[.slice (some ⟨b,o,none⟩) 3 c,.int .i64 h.nx,.int .i64 h.rd],nxA x])) U:=by
 obtain⟨hd,hA⟩:=hA;have k1:=TB H.rh (.slice (some ⟨b,o,none⟩) 3 c) (.int .i64 h.nx) (.int .i64 h.rd);have o1:=Z1P H.rh (.slice (some ⟨b,o,none⟩) 3 c) (.int .i64 h.nx) (.int .i64 h.rd);rw[<- hV] at k1 o1;have hb1:∀ k,k≠w.heap.size+1+1->V.heap[k]?=W.heap[k]?:=fun k hk=>by
  rw[hV,Below.heap_setCell _ ⟨w.heap.size+1+1,2,none⟩ _ _ hk,Below.heap_setCell _ ⟨w.heap.size+1+1,1,none⟩ _ _ hk,Below.heap_setCell _ ⟨w.heap.size+1+1,0,none⟩ _ _ hk]
 have a1:=H.ra.of_block (hb1 _ (by omega))
 have k2:=XF a1 (.int .i64 x.r.code) (.string (str x.r.data)) (.slice x.f.a x.f.n x.f.c) (.int .i64 x.r.count) (.slice x.g.a x.g.n x.g.c);have o2:=(ZJ a1 (.int .i64 x.r.code) (.string (str x.r.data)) (.slice x.f.a x.f.n x.f.c) (.int .i64 x.r.count) (.slice x.g.a x.g.n x.g.c)).2;rw[<- hU] at k2 o2;have hb2:∀ k,k≠w.heap.size+1+1+1->U.heap[k]?=V.heap[k]?:=fun k hk=>by
  rw[hU];exact Vz _ _ _ _ _ hk
 have o1:=o1.of_block (hb2 _ (by omega))
 refine⟨o1.cell (i:=0) rfl,o1.cell (i:=1) rfl,o1.cell (i:=2) rfl,o2.cell (i:=0) rfl,o2.cell (i:=1) rfl,o2.cell (i:=2) rfl,o2.cell (i:=3) rfl,o2.cell (i:=4) rfl,H.fin (k1.trans k2) (fun k h1 h2=>(hb2 k h2).trans (hb1 k h1)) b o c hd hA ?_⟩
 have c1:=(((((((((Chg.refl (fun _=>True) W).set (p:=w.heap.size+1+1) trivial 0 (.slice (some ⟨b,o,none⟩) 3 c)).set (p:=w.heap.size+1+1) trivial 1 (.int .i64 h.nx)).set (p:=w.heap.size+1+1) trivial 2 (.int .i64 h.rd)).set (p:=w.heap.size+1+1+1) trivial 0 (.int .i64 x.r.code)).set (p:=w.heap.size+1+1+1) trivial 1 (.string (str x.r.data))).set (p:=w.heap.size+1+1+1) trivial 2 (.slice x.f.a x.f.n x.f.c)).set (p:=w.heap.size+1+1+1) trivial 3 (.int .i64 x.r.count)).set (p:=w.heap.size+1+1+1) trivial 4 (.slice x.g.a x.g.n x.g.c))
 rw[hU,hV];exact⟨c1.os,c1.tape,c1.output⟩
end
theorem Xk {w:World} {b o c:Nat} {hd:Nat->Hd} {h:Ha} (k:Int) (F:List Fi) (s:ByteArray) (d n at_ by_:Int) (fa:Option Addr) (fn fc:Nat) (hA:Arr w b o 3 hd h.A) (hm:Z2 h.A=true):
  ∃ W b0 o0 c0 hd0,W=((((w.alloc (.cells #[.slice (some ⟨b,o,none⟩) 3 c,.int .i64 h.nx,.int .i64 h.rd] 49)).alloc (.cells #[.int .i64 k,.slice fa fn fc,.string s,.int .i64 d,.int .i64 n,.int .i64 at_,.int .i64 by_] 46)).alloc (.cells #[.slice none 0 0,.int .i64 0,.int .i64 0] 49)).alloc (.cells #[.int .i64 0,.string ⟨#[]⟩,.slice none 0 0,.int .i64 0,.slice none 0 0] 34)).alloc (.cells #[.int .i64 0,.string ⟨#[]⟩,.slice none 0 0,.int .i64 0,.slice none 0 0] 34)∧RdI w h ⟨⟨k,F,s,d,n,at_,by_⟩,⟨fa,fn,fc⟩⟩ nxZ W∧Arr W b0 o0 3 hd0 h.A∧(W.cell? ⟨w.heap.size,0,none⟩=some (.slice (some ⟨b0,o0,none⟩) 3 c0)∧W.cell? ⟨w.heap.size,1,none⟩=some (.int .i64 h.nx)∧W.cell? ⟨w.heap.size,2,none⟩=some (.int .i64 h.rd)∧W.frozen? ⟨w.heap.size,0,none⟩=false) ∧
   (W.cell? ⟨w.heap.size+1+1+1+1,0,none⟩=some (.int .i64 0)∧W.cell? ⟨w.heap.size+1+1+1+1,1,none⟩=some (.string ⟨#[]⟩)∧W.cell? ⟨w.heap.size+1+1+1+1,2,none⟩=some (.slice none 0 0)∧W.cell? ⟨w.heap.size+1+1+1+1,3,none⟩=some (.int .i64 0)∧W.cell? ⟨w.heap.size+1+1+1+1,4,none⟩=some (.slice none 0 0))∧(W.frozen? ⟨w.heap.size+1+1+1+1,0,none⟩=false∧W.frozen? ⟨w.heap.size+1+1+1+1,1,none⟩=false∧W.frozen? ⟨w.heap.size+1+1+1+1,2,none⟩=false∧W.frozen? ⟨w.heap.size+1+1+1+1,3,none⟩=false∧W.frozen? ⟨w.heap.size+1+1+1+1,4,none⟩=false)∧W.cell? ⟨w.heap.size+1,0,none⟩=some (.int .i64 k)∧W.cell? ⟨w.heap.size+1,1,none⟩=some (.slice fa fn fc)∧W.cell? ⟨w.heap.size+1,2,none⟩=some (.string s)∧W.cell? ⟨w.heap.size+1,3,none⟩=some (.int .i64 d)∧W.cell? ⟨w.heap.size+1,4,none⟩=some (.int .i64 n)∧W.cell? ⟨w.heap.size+1,5,none⟩=some (.int .i64 at_)∧W.cell? ⟨w.heap.size+1,6,none⟩=some (.int .i64 by_):=by
 obtain⟨W,hW⟩:∃ W,W=((((w.alloc (.cells #[.slice (some ⟨b,o,none⟩) 3 c,.int .i64 h.nx,.int .i64 h.rd] 49)).alloc (.cells #[.int .i64 k,.slice fa fn fc,.string s,.int .i64 d,.int .i64 n,.int .i64 at_,.int .i64 by_] 46)).alloc (.cells #[.slice none 0 0,.int .i64 0,.int .i64 0] 49)).alloc (.cells #[.int .i64 0,.string ⟨#[]⟩,.slice none 0 0,.int .i64 0,.slice none 0 0] 34)).alloc (.cells #[.int .i64 0,.string ⟨#[]⟩,.slice none 0 0,.int .i64 0,.slice none 0 0] 34):=⟨_,rfl⟩;have S:=Z4o (c:=c) ⟨⟨k,F,s,d,n,at_,by_⟩,⟨fa,fn,fc⟩⟩ hA hm W hW;obtain⟨b0,o0,c0,hd0,g1,g2,_⟩:=S.se.ex;have q:=S.out;have x:=S.ax;exact⟨W,b0,o0,c0,hd0,hW,S,g2,⟨g1.cell (i:=0) rfl,g1.cell (i:=1) rfl,g1.cell (i:=2) rfl,g1.free 0⟩,⟨q.cell (i:=0) rfl,q.cell (i:=1) rfl,q.cell (i:=2) rfl,q.cell (i:=3) rfl,q.cell (i:=4) rfl⟩,⟨q.free 0,q.free 1,q.free 2,q.free 3,q.free 4⟩,x.cell (i:=0) rfl,x.cell (i:=1) rfl,x.cell (i:=2) rfl,x.cell (i:=3) rfl,x.cell (i:=4) rfl,x.cell (i:=5) rfl,x.cell (i:=6) rfl⟩
section
variable (h:Ha) (w:World)
theorem Z6k (w:World) (c:Int) (d:List UInt8) (k:Int):NxOk w ⟨⟨c,d,[],k,[]⟩,nilS,nilS⟩:=⟨Zd.nil,rfl,Nat.zero_le _,intsAt_none _ _⟩
theorem Z1T (B:Nat) (c:Int) (d:List UInt8) (k:Int):YO B ⟨⟨c,d,[],k,[]⟩,nilS,nilS⟩:=⟨newS_nil _ _,newS_nil _ _⟩
theorem Z4k (b o c:Nat) (hd:Nat->Hd) (F:List Fi) (s:ByteArray) (d n at_ by_:Int) (fa:Option Addr) (fn fc:Nat) (hA:Arr w b o 3 hd h.A) (hm:Z2 h.A=true) (k:Int) (k1:¬ k=1) (k2:¬ k=2) (k3:¬ k=3) (k4:¬ k=4) (k5:¬ k=5) (k6:¬ k=6) (k7:¬ k=7) (k8:¬ k=8):
  Calls Tryz.prog 12 #[.agg #[.slice (some ⟨b,o,none⟩) 3 c,.int .i64 h.nx,.int .i64 h.rd],.agg #[.int .i64 k,.slice fa fn fc,.string s,.int .i64 d,.int .i64 n,.int .i64 at_,.int .i64 by_]] w (Wl w (h,anE 3)):=by
 obtain⟨W,b0,o0,c0,hd0,hW,S0,g2,⟨p0,_⟩,⟨y0,y1,y2,y3,y4⟩,⟨f0,f1,f2,f3,f4⟩,x0,_,_,_,_,_,_⟩:=Xk (c:=c) k F s d n at_ by_ fa fn fc hA hm;have HP:=hid S0;clear g2 hA hm S0 p0;go_enter Tryz.func12,Tryz.ntmps12
 go_upto_region 2 with fail
 rw[<- hW];clear hW;go_upto_region 40 with fail
 have R:=HP.out.set 0 (.int .i64 3) (nxE 3) (.int .i64 0) rfl (.inl rfl) rfl (nxE_ok _ _) (nxE_new _ _);obtain⟨V,hV⟩:∃ V,V=W.setCell ⟨w.heap.size+1+1+1+1,0,none⟩ (.int .i64 3):=⟨_,rfl⟩;rw[<- hV] at R ⊢;obtain⟨b1,o1,c1,hA1,a0,a1,a2,e0,e1,e2,e3,e4,r0,r1,r2,r3,r4,r5,t0,t1,t2,t3,t4,u0,u1,u2,u3,u4⟩:=R.cells;have HR:=hid (And.intro R hA1);clear R hA1 hV HP x0 y0 y1 y2 y3 y4 f0 f1 f2 f3 f4 k1 k2 k3 k4 k5 k6 k7 k8;go_region
 all_goals go_wp2
 all_goals
  obtain⟨y0,y1,y2,y3,y4,y5,y6,y7,z3⟩:=HR.out.1.done (c:=c1) HR.out.2 _ rfl _ rfl;refine bodyPost_ret (v:=.tuple #[.agg #[.slice (some ⟨b1,o1,none⟩) 3 c1,.int .i64 h.nx,.int .i64 h.rd],nxA (nxE 3)]) (by simp[results,Tryz.results12,go_sem,y0,y1,y2,y3,y4,y5,y6,y7,nxA]) rfl ?_
  exact z3.drew
theorem Z7G (b o c:Nat) (hd:Nat->Hd) (F:List Fi) (s:ByteArray) (d n at_ by_:Int) (fa:Option Addr) (fn fc:Nat) (hA:Arr w b o 3 hd h.A) (hm:Z2 h.A=true):
  Calls Tryz.prog 12 #[.agg #[.slice (some ⟨b,o,none⟩) 3 c,.int .i64 h.nx,.int .i64 h.rd],.agg #[.int .i64 2,.slice fa fn fc,.string s,.int .i64 d,.int .i64 n,.int .i64 at_,.int .i64 by_]] w (Wl w (Z0p h s)):=by
 obtain⟨W,b0,o0,c0,hd0,hW,S0,g2,⟨p0,_⟩,⟨y0,y1,y2,y3,y4⟩,⟨f0,f1,f2,f3,f4⟩,x0,_,x2,_,_,_,_⟩:=Xk (c:=c) 2 F s d n at_ by_ fa fn fc hA hm;have CG:=hid (Z7Z (some ⟨b0,o0,none⟩) 3 c0 h.A s W (.inr ⟨b0,o0,hd0,rfl,g2⟩));unfold Z0p;generalize getA h.A s=r at CG;have HP:=hid S0;clear g2 hA hm S0;go_enter Tryz.func12,Tryz.ntmps12
 go_upto_region 2 with fail
 rw[<- hW];clear hW;go_wp2_with fail
 refine CG.out.mono ?_
 rintro _ w3 ⟨rfl,g4⟩;have S3:=HP.out.to g4;replace y0:=S3.out.cell (i:=0) rfl;replace y1:=S3.out.cell (i:=1) rfl;replace f0:=S3.out.free 0;replace f1:=S3.out.free 1;have HP3:=hid S3;clear S3 CG HP g4 y2 y3 y4 f2 f3 f4 p0 x0 x2;go_upto_region 40 with fail
 have R:=(HP3.out.set 1 (.string (str r.1)) ⟨⟨0,r.1,[],0,[]⟩,nilS,nilS⟩ (.string ⟨#[]⟩) rfl (.inr (.inl rfl)) rfl (Z6k _ _ _ _) (Z1T _ _ _ _)).set 0 (.int .i64 r.2) ⟨⟨r.2,r.1,[],0,[]⟩,nilS,nilS⟩ (.int .i64 0) rfl (.inl rfl) rfl (Z6k _ _ _ _) (Z1T _ _ _ _);obtain⟨V,hV⟩:∃ V,V=(w3.setCell ⟨w.heap.size+1+1+1+1,1,none⟩ (.string (str r.1))).setCell ⟨w.heap.size+1+1+1+1,0,none⟩ (.int .i64 r.2):=⟨_,rfl⟩;rw[<- hV] at R ⊢;obtain⟨b1,o1,c1,hA1,a0,a1,a2,e0,e1,e2,e3,e4,r0,r1,r2,r3,r4,r5,t0,t1,t2,t3,t4,u0,u1,u2,u3,u4⟩:=R.cells;have HR:=hid (And.intro R hA1);clear R hA1 hV HP3 y0 y1 f0 f1;go_region
 all_goals go_wp2
 all_goals
  obtain⟨y0,y1,y2,y3,y4,y5,y6,y7,z3⟩:=HR.out.1.done (c:=c1) HR.out.2 _ rfl _ rfl;refine bodyPost_ret (v:=.tuple #[.agg #[.slice (some ⟨b1,o1,none⟩) 3 c1,.int .i64 h.nx,.int .i64 h.rd],nxA ⟨⟨r.2,r.1,[],0,[]⟩,nilS,nilS⟩]) (by simp[results,Tryz.results12,go_sem,y0,y1,y2,y3,y4,y5,y6,y7,nxA]) rfl ?_
  exact z3.drew
theorem Z6f (b o c:Nat) (hd:Nat->Hd) (F:List Fi) (s:ByteArray) (d n at_ by_:Int) (fa:Option Addr) (fn fc:Nat) (hA:Arr w b o 3 hd h.A) (hm:Z2 h.A=true):
  Calls Tryz.prog 12 #[.agg #[.slice (some ⟨b,o,none⟩) 3 c,.int .i64 h.nx,.int .i64 h.rd],.agg #[.int .i64 3,.slice fa fn fc,.string s,.int .i64 d,.int .i64 n,.int .i64 at_,.int .i64 by_]] w (Wl w (Td h)):=by
 obtain⟨W,b0,o0,c0,hd0,hW,S0,g2,⟨p0,_⟩,⟨y0,y1,y2,y3,y4⟩,⟨f0,f1,f2,f3,f4⟩,x0,_,_,_,_,_,_⟩:=Xk (c:=c) 3 F s d n at_ by_ fa fn fc hA hm;have CG:=hid (Jy (some ⟨b0,o0,none⟩) 3 c0 h.A W (.inr ⟨b0,o0,hd0,rfl,g2⟩));unfold Td;generalize (opn h.A).2=r at CG;generalize namesE (opn h.A).1.2=N at CG;have HP:=hid S0;clear g2 hA hm S0;go_enter Tryz.func12,Tryz.ntmps12
 go_upto_region 2 with fail
 rw[<- hW];clear hW;go_wp2_with fail
 refine CG.out.mono ?_
 rintro _ w3 ⟨na,nn,nc,rfl,⟨hN1,hN2,hN3⟩,hN4,g4⟩;have S3:=HP.out.to g4;have hnew:NewS (w.heap.size+5) na nn:=hN4.less HP.out.lt;have hok:NxOk w3 ⟨⟨0,[],N,0,[]⟩,⟨na,nn,nc⟩,nilS⟩:=⟨hN1,hN2,hN3,intsAt_none _ _⟩;replace y0:=S3.out.cell (i:=0) rfl;replace y2:=S3.out.cell (i:=2) rfl;replace f0:=S3.out.free 0;replace f2:=S3.out.free 2;have HP3:=hid (And.intro S3 (And.intro hok hnew));clear S3 CG HP g4 y1 y3 y4 f1 f3 f4 p0 x0 hnew hok hN1 hN2 hN3 hN4;go_upto_region 40 with fail
 have R1:=HP3.out.1.set 2 (.slice na nn nc) ⟨⟨0,[],N,0,[]⟩,⟨na,nn,nc⟩,nilS⟩ (.slice none 0 0) rfl (.inr (.inr rfl)) rfl HP3.out.2.1 ⟨HP3.out.2.2,newS_nil _ _⟩;have R:=R1.set 0 (.int .i64 r) ⟨⟨r,[],N,0,[]⟩,⟨na,nn,nc⟩,nilS⟩ (.int .i64 0) rfl (.inl rfl) rfl ⟨R1.ok.S,R1.ok.sn,R1.ok.sb,R1.ok.G⟩ ⟨HP3.out.2.2,newS_nil _ _⟩;clear R1;obtain⟨V,hV⟩:∃ V,V=(w3.setCell ⟨w.heap.size+1+1+1+1,2,none⟩ (.slice na nn nc)).setCell ⟨w.heap.size+1+1+1+1,0,none⟩ (.int .i64 r):=⟨_,rfl⟩;rw[<- hV] at R ⊢;obtain⟨b1,o1,c1,hA1,a0,a1,a2,e0,e1,e2,e3,e4,r0,r1,r2,r3,r4,r5,t0,t1,t2,t3,t4,u0,u1,u2,u3,u4⟩:=R.cells;have HR:=hid (And.intro R hA1);clear R hA1 hV HP3 y0 y2 f0 f2;go_region
 all_goals go_wp2
 all_goals
  obtain⟨y0,y1,y2,y3,y4,y5,y6,y7,z3⟩:=HR.out.1.done (c:=c1) HR.out.2 _ rfl _ rfl;refine bodyPost_ret (v:=.tuple #[.agg #[.slice (some ⟨b1,o1,none⟩) 3 c1,.int .i64 h.nx,.int .i64 h.rd],nxA ⟨⟨r,[],N,0,[]⟩,⟨na,nn,nc⟩,nilS⟩]) (by simp[results,Tryz.results12,go_sem,y0,y1,y2,y3,y4,y5,y6,y7,nxA]) rfl ?_
  exact z3.drew
theorem Z34 (b o c:Nat) (hd:Nat->Hd) (F:List Fi) (s:ByteArray) (d n at_ by_:Int) (fa:Option Addr) (fn fc:Nat) (hA:Arr w b o 3 hd h.A) (hm:Z2 h.A=true):
  Calls Tryz.prog 12 #[.agg #[.slice (some ⟨b,o,none⟩) 3 c,.int .i64 h.nx,.int .i64 h.rd],.agg #[.int .i64 8,.slice fa fn fc,.string s,.int .i64 d,.int .i64 n,.int .i64 at_,.int .i64 by_]] w (Wl w (Wk h)):=by
 obtain⟨W,b0,o0,c0,hd0,hW,S0,g2,⟨p0,_⟩,⟨y0,y1,y2,y3,y4⟩,⟨f0,f1,f2,f3,f4⟩,x0,_,_,_,_,_,_⟩:=Xk (c:=c) 8 F s d n at_ by_ fa fn fc hA hm;have CG:=hid (Qe (some ⟨b0,o0,none⟩) 3 c0 h.A W (.inr ⟨b0,o0,hd0,rfl,g2⟩));unfold Wk;generalize arHealth h.A=r at CG;have HP:=hid S0;clear g2 hA hm S0;go_enter Tryz.func12,Tryz.ntmps12
 go_upto_region 2 with fail
 rw[<- hW];clear hW;go_wp2_with fail
 refine CG.out.mono ?_
 rintro _ w3 ⟨⟨na,nn,nc,rfl,hN1,hN4⟩,g4⟩;have S3:=HP.out.to g4;have hnew:NewS (w.heap.size+5) na nn:=hN4.less HP.out.lt;have hok:NxOk w3 ⟨⟨0,[],[],r.1,r.2.1⟩,nilS,⟨na,nn,nc⟩⟩:=⟨Zd.nil,rfl,Nat.zero_le _,hN1⟩;replace y0:=S3.out.cell (i:=0) rfl;replace y3:=S3.out.cell (i:=3) rfl;replace y4:=S3.out.cell (i:=4) rfl;replace f0:=S3.out.free 0;replace f3:=S3.out.free 3;replace f4:=S3.out.free 4;have HP3:=hid (And.intro S3 (And.intro hok hnew));clear S3 CG HP g4 y1 y2 f1 f2 p0 x0 hnew hok hN1 hN4;go_upto_region 40 with fail
 have R1:=HP3.out.1.set 3 (.int .i64 r.1) ⟨⟨0,[],[],r.1,[]⟩,nilS,nilS⟩ (.int .i64 0) rfl (.inl rfl) rfl (Z6k _ _ _ _) (Z1T _ _ _ _);have k1:=HP3.out.2.1.G.R.grown (row:=some (w.heap.size+1+1+1+1)) (fun h0 b2 o2 s2 e1 e2=>by cases e2; have:=HP3.out.2.2 (by have q:nn=(ups r.2.1).length:=HP3.out.2.1.G.sn; have h1:0<(ZX (ups r.2.1)).length:=h0; rw[Zt] at h1; omega) _ _ _ e1; omega) (Xw w3 ⟨w.heap.size+1+1+1+1,3,none⟩ (.int .i64 r.1))
 have R2:=R1.set 4 (.slice na nn nc) ⟨⟨0,[],[],r.1,r.2.1⟩,nilS,⟨na,nn,nc⟩⟩ (.slice none 0 0) rfl (.inr (.inr rfl)) rfl ⟨Zd.nil,rfl,Nat.zero_le _,⟨HP3.out.2.1.G.sn,HP3.out.2.1.G.nb,k1⟩⟩ ⟨newS_nil _ _,HP3.out.2.2⟩;have R:=R2.set 0 (.int .i64 r.2.2) ⟨⟨r.2.2,[],[],r.1,r.2.1⟩,nilS,⟨na,nn,nc⟩⟩ (.int .i64 0) rfl (.inl rfl) rfl ⟨R2.ok.S,R2.ok.sn,R2.ok.sb,R2.ok.G⟩ ⟨newS_nil _ _,HP3.out.2.2⟩;clear R1 R2 k1;obtain⟨V,hV⟩:∃ V,V=((w3.setCell ⟨w.heap.size+1+1+1+1,3,none⟩ (.int .i64 r.1)).setCell ⟨w.heap.size+1+1+1+1,4,none⟩ (.slice na nn nc)).setCell ⟨w.heap.size+1+1+1+1,0,none⟩ (.int .i64 r.2.2):=⟨_,rfl⟩;rw[<- hV] at R ⊢;obtain⟨b1,o1,c1,hA1,a0,a1,a2,e0,e1,e2,e3,e4,r0,r1,r2,r3,r4,r5,t0,t1,t2,t3,t4,u0,u1,u2,u3,u4⟩:=R.cells;have HR:=hid (And.intro R hA1);clear R hA1 hV HP3 y0 y3 y4 f0 f3 f4;go_region
 all_goals go_wp2
 all_goals
  obtain⟨y0,y1,y2,y3,y4,y5,y6,y7,z3⟩:=HR.out.1.done (c:=c1) HR.out.2 _ rfl _ rfl;refine bodyPost_ret (v:=.tuple #[.agg #[.slice (some ⟨b1,o1,none⟩) 3 c1,.int .i64 h.nx,.int .i64 h.rd],nxA ⟨⟨r.2.2,[],[],r.1,r.2.1⟩,nilS,⟨na,nn,nc⟩⟩]) (by simp[results,Tryz.results12,go_sem,y0,y1,y2,y3,y4,y5,y6,y7,nxA]) rfl ?_
  exact z3.drew
theorem Z7H (b o c:Nat) (hd:Nat->Hd) (F:List Fi) (s:ByteArray) (d n at_ by_:Int) (fa:Option Addr) (fn fc:Nat) (hA:Arr w b o 3 hd h.A) (hm:Z2 h.A=true) (hF:ZV w fa fn F):
  Calls Tryz.prog 12 #[.agg #[.slice (some ⟨b,o,none⟩) 3 c,.int .i64 h.nx,.int .i64 h.rd],.agg #[.int .i64 1,.slice fa fn fc,.string s,.int .i64 d,.int .i64 n,.int .i64 at_,.int .i64 by_]] w (Wl w (Z0q h F)):=by
 obtain⟨W,b0,o0,c0,hd0,hW,S0,g2,⟨p0,_,_,ha0⟩,⟨y0,y1,y2,y3,y4⟩,⟨f0,f1,f2,f3,f4⟩,x0,x1,_,_,_,_,_⟩:=Xk (c:=c) 1 F s d n at_ by_ fa fn fc hA hm;have CG:=hid (Z33 (some ⟨b0,o0,none⟩) 3 c0 h.A fa fn fc F W (.inr ⟨b0,o0,hd0,rfl,g2⟩) (hF.below S0.below));have HM:=hid (Z5R h.A F);unfold Z0q;generalize addA h.A F=r at CG HM;have HP:=hid S0;clear g2 hA hm S0;obtain⟨A',e'⟩:=r
 by_cases he:e'=0
 ·subst he
  go_enter Tryz.func12,Tryz.ntmps12
  go_upto_region 2 with fail
  rw[<- hW];clear hW;go_wp2_with fail
  refine CG.out.mono ?_
  rintro _ w3 ⟨⟨xa,xn,xc,rfl,hX⟩,g4⟩;obtain⟨u3,hu3⟩:∃ u3,u3=w3.alloc (.cells #[.slice xa xn xc] 26):=⟨_,rfl⟩;have gu:Below w3.heap.size w3 u3:=by rw[hu3]; exact (Below.refl _ w3).alloc (Nat.le_refl _) _
  have q0:u3.cell? ⟨w3.heap.size,0,none⟩=some (.slice xa xn xc):=by rw[hu3]; exact (Own.made w3 26 [.slice xa xn xc]).cell (i:=0) rfl
  have S3:=(HP.out.to g4).to gu;have lt:=HP.out.lt;have lt3:=g4.size;have hne:¬ w3.heap.size=w.heap.size+1+1+1+1:=by omega
  replace y0:=S3.out.cell (i:=0) rfl;replace f0:=S3.out.free 0;obtain⟨bh,oh,ch,hdh,k1,k2,k3⟩:=S3.se.ex;have p1:=k1.cell (i:=0) rfl;have p2:=k1.free 0;obtain⟨bx,ox,hdx,hx1,hx2,hAx,hbp,hmx⟩:=XX (p:=w.heap.size) (by omega) hX (fun _=>HM.out trivial) rfl
  subst hx1;subst hx2;have R1:=S3.set 0 (.int .i64 0) (nxE 0) (.int .i64 0) rfl (.inl rfl) rfl (nxE_ok _ _) (nxE_new _ _);have R:=R1.hall 0 (.slice (some ⟨bx,ox,none⟩) 3 xc) ⟨A',h.nx,h.rd⟩ (R1.se.put ((hAx.below gu).keepz hmx (Zv y0 (.inl rfl) _)) hmx hbp xc);have HR0:=hid R;clear R R1 S3 CG HP HM g4 gu hX k1 k2 k3 y1 y2 y3 y4 f1 f2 f3 f4 p0 hAx ha0 lt lt3 x0 x1;go_upto_region 6 with fail
  rw[<- hu3];clear hu3;go_upto_region 40 with fail
  have R:=HR0.out;obtain⟨V,hV⟩:∃ V,V=(u3.setCell ⟨w.heap.size+1+1+1+1,0,none⟩ (.int .i64 0)).setCell ⟨w.heap.size,0,none⟩ (.slice (some ⟨bx,ox,none⟩) 3 xc):=⟨_,rfl⟩;rw[<- hV] at R ⊢;obtain⟨b1,o1,c1,hA1,a0,a1,a2,e0,e1,e2,e3,e4,r0,r1,r2,r3,r4,r5,t0,t1,t2,t3,t4,u0,u1,u2,u3,u4⟩:=R.cells;have HR:=hid (And.intro R hA1);clear R hA1 hV HR0 y0 f0 p1 p2 q0 hne;go_region
  all_goals go_wp2
  all_goals
   obtain⟨y0,y1,y2,y3,y4,y5,y6,y7,z3⟩:=HR.out.1.done (c:=c1) HR.out.2 _ rfl _ rfl;refine bodyPost_ret (v:=.tuple #[.agg #[.slice (some ⟨b1,o1,none⟩) 3 c1,.int .i64 h.nx,.int .i64 h.rd],nxA (nxE 0)]) (by simp[results,Tryz.results12,go_sem,y0,y1,y2,y3,y4,y5,y6,y7,nxA]) rfl ?_
   exact z3.drew
 ·have hb:(e'==0)=false:=beq_eq_false_iff_ne.2 he
  have hb2:decide (e'=0)=false:=decide_eq_false he;rw[if_neg he];go_enter Tryz.func12,Tryz.ntmps12
  go_upto_region 2 with fail
  rw[<- hW];clear hW;go_wp2_with fail
  refine CG.out.mono ?_
  rintro _ w3 ⟨⟨xa,xn,xc,rfl,hX⟩,g4⟩;obtain⟨u3,hu3⟩:∃ u3,u3=w3.alloc (.cells #[.slice xa xn xc] 26):=⟨_,rfl⟩;have gu:Below w3.heap.size w3 u3:=by rw[hu3]; exact (Below.refl _ w3).alloc (Nat.le_refl _) _
  have q0:u3.cell? ⟨w3.heap.size,0,none⟩=some (.slice xa xn xc):=by rw[hu3]; exact (Own.made w3 26 [.slice xa xn xc]).cell (i:=0) rfl
  have S3:=(HP.out.to g4).to gu;have lt:=HP.out.lt;have lt3:=g4.size;have hne:¬ w3.heap.size=w.heap.size+1+1+1+1:=by omega
  replace y0:=S3.out.cell (i:=0) rfl;replace f0:=S3.out.free 0;obtain⟨bh,oh,ch,hdh,k1,k2,k3⟩:=S3.se.ex;have p1:=k1.cell (i:=0) rfl;have p2:=k1.free 0;have R:=S3.set 0 (.int .i64 e') (nxE e') (.int .i64 0) rfl (.inl rfl) rfl (nxE_ok _ _) (nxE_new _ _);have HR0:=hid R;clear R S3 CG HP HM g4 gu hX k1 k2 k3 y1 y2 y3 y4 f1 f2 f3 f4 p0 ha0 lt lt3 x0 x1;go_upto_region 6 with fail
  rw[<- hu3];clear hu3;go_upto_region 40 with fail
  have R:=HR0.out;obtain⟨V,hV⟩:∃ V,V=u3.setCell ⟨w.heap.size+1+1+1+1,0,none⟩ (.int .i64 e'):=⟨_,rfl⟩;rw[<- hV] at R ⊢;obtain⟨b1,o1,c1,hA1,a0,a1,a2,e0,e1,e2,e3,e4,r0,r1,r2,r3,r4,r5,t0,t1,t2,t3,t4,u0,u1,u2,u3,u4⟩:=R.cells;have HR:=hid (And.intro R hA1);clear R hA1 hV HR0 y0 f0 p1 p2 q0 hne hb hb2;go_region
  all_goals go_wp2
  all_goals
   obtain⟨y0,y1,y2,y3,y4,y5,y6,y7,z3⟩:=HR.out.1.done (c:=c1) HR.out.2 _ rfl _ rfl;refine bodyPost_ret (v:=.tuple #[.agg #[.slice (some ⟨b1,o1,none⟩) 3 c1,.int .i64 h.nx,.int .i64 h.rd],nxA (nxE e')]) (by simp[results,Tryz.results12,go_sem,y0,y1,y2,y3,y4,y5,y6,y7,nxA]) rfl ?_
   exact z3.drew
theorem Z7F (b o c:Nat) (hd:Nat->Hd) (F:List Fi) (s:ByteArray) (d n at_ by_:Int) (fa:Option Addr) (fn fc:Nat) (hA:Arr w b o 3 hd h.A) (hm:Z2 h.A=true):
  Calls Tryz.prog 12 #[.agg #[.slice (some ⟨b,o,none⟩) 3 c,.int .i64 h.nx,.int .i64 h.rd],.agg #[.int .i64 6,.slice fa fn fc,.string s,.int .i64 d,.int .i64 n,.int .i64 at_,.int .i64 by_]] w (Wl w (Z0o h d)):=by
 obtain⟨W,b0,o0,c0,hd0,hW,S0,g2,⟨p0,_,_,ha0⟩,⟨y0,y1,y2,y3,y4⟩,⟨f0,f1,f2,f3,f4⟩,x0,_,_,x3,_,_,_⟩:=Xk (c:=c) 6 F s d n at_ by_ fa fn fc hA hm;have CG:=hid (Jx (some ⟨b0,o0,none⟩) 3 c0 d h.A W (.inr ⟨b0,o0,hd0,rfl,g2⟩));have HM:=hid (UE h.A d);unfold Z0o;generalize arReplace h.A d=r at CG HM;have HP:=hid S0;clear g2 hA hm S0;obtain⟨A',e'⟩:=r
 by_cases he:e'=0
 ·subst he
  go_enter Tryz.func12,Tryz.ntmps12
  go_upto_region 2 with fail
  rw[<- hW];clear hW;go_wp2_with fail
  refine CG.out.mono ?_
  rintro _ w3 ⟨⟨xa,xn,xc,rfl,hX⟩,g4⟩;obtain⟨u3,hu3⟩:∃ u3,u3=w3.alloc (.cells #[.slice xa xn xc] 26):=⟨_,rfl⟩;have gu:Below w3.heap.size w3 u3:=by rw[hu3]; exact (Below.refl _ w3).alloc (Nat.le_refl _) _
  have q0:u3.cell? ⟨w3.heap.size,0,none⟩=some (.slice xa xn xc):=by rw[hu3]; exact (Own.made w3 26 [.slice xa xn xc]).cell (i:=0) rfl
  have S3:=(HP.out.to g4).to gu;have lt:=HP.out.lt;have lt3:=g4.size;have hne:¬ w3.heap.size=w.heap.size+1+1+1+1:=by omega
  replace y0:=S3.out.cell (i:=0) rfl;replace f0:=S3.out.free 0;obtain⟨bh,oh,ch,hdh,k1,k2,k3⟩:=S3.se.ex;have p1:=k1.cell (i:=0) rfl;have p2:=k1.free 0;obtain⟨bx,ox,hdx,hx1,hx2,hAx,hbp,hmx⟩:=XX (p:=w.heap.size) (by omega) hX (fun _=>HM.out trivial) rfl
  subst hx1;subst hx2;have R1:=S3.set 0 (.int .i64 0) (nxE 0) (.int .i64 0) rfl (.inl rfl) rfl (nxE_ok _ _) (nxE_new _ _);have R:=R1.hall 0 (.slice (some ⟨bx,ox,none⟩) 3 xc) ⟨A',h.nx,h.rd⟩ (R1.se.put ((hAx.below gu).keepz hmx (Zv y0 (.inl rfl) _)) hmx hbp xc);have HR0:=hid R;clear R R1 S3 CG HP HM g4 gu hX k1 k2 k3 y1 y2 y3 y4 f1 f2 f3 f4 p0 hAx ha0 lt lt3 x0 x3;go_upto_region 27 with fail
  rw[<- hu3];clear hu3;go_upto_region 40 with fail
  have R:=HR0.out;obtain⟨V,hV⟩:∃ V,V=(u3.setCell ⟨w.heap.size+1+1+1+1,0,none⟩ (.int .i64 0)).setCell ⟨w.heap.size,0,none⟩ (.slice (some ⟨bx,ox,none⟩) 3 xc):=⟨_,rfl⟩;rw[<- hV] at R ⊢;obtain⟨b1,o1,c1,hA1,a0,a1,a2,e0,e1,e2,e3,e4,r0,r1,r2,r3,r4,r5,t0,t1,t2,t3,t4,u0,u1,u2,u3,u4⟩:=R.cells;have HR:=hid (And.intro R hA1);clear R hA1 hV HR0 y0 f0 p1 p2 q0 hne;go_region
  all_goals go_wp2
  all_goals
   obtain⟨y0,y1,y2,y3,y4,y5,y6,y7,z3⟩:=HR.out.1.done (c:=c1) HR.out.2 _ rfl _ rfl;refine bodyPost_ret (v:=.tuple #[.agg #[.slice (some ⟨b1,o1,none⟩) 3 c1,.int .i64 h.nx,.int .i64 h.rd],nxA (nxE 0)]) (by simp[results,Tryz.results12,go_sem,y0,y1,y2,y3,y4,y5,y6,y7,nxA]) rfl ?_
   exact z3.drew
 ·have hb:(e'==0)=false:=beq_eq_false_iff_ne.2 he
  have hb2:decide (e'=0)=false:=decide_eq_false he;rw[if_neg he];go_enter Tryz.func12,Tryz.ntmps12
  go_upto_region 2 with fail
  rw[<- hW];clear hW;go_wp2_with fail
  refine CG.out.mono ?_
  rintro _ w3 ⟨⟨xa,xn,xc,rfl,hX⟩,g4⟩;obtain⟨u3,hu3⟩:∃ u3,u3=w3.alloc (.cells #[.slice xa xn xc] 26):=⟨_,rfl⟩;have gu:Below w3.heap.size w3 u3:=by rw[hu3]; exact (Below.refl _ w3).alloc (Nat.le_refl _) _
  have q0:u3.cell? ⟨w3.heap.size,0,none⟩=some (.slice xa xn xc):=by rw[hu3]; exact (Own.made w3 26 [.slice xa xn xc]).cell (i:=0) rfl
  have S3:=(HP.out.to g4).to gu;have lt:=HP.out.lt;have lt3:=g4.size;have hne:¬ w3.heap.size=w.heap.size+1+1+1+1:=by omega
  replace y0:=S3.out.cell (i:=0) rfl;replace f0:=S3.out.free 0;obtain⟨bh,oh,ch,hdh,k1,k2,k3⟩:=S3.se.ex;have p1:=k1.cell (i:=0) rfl;have p2:=k1.free 0;have R:=S3.set 0 (.int .i64 e') (nxE e') (.int .i64 0) rfl (.inl rfl) rfl (nxE_ok _ _) (nxE_new _ _);have HR0:=hid R;clear R S3 CG HP HM g4 gu hX k1 k2 k3 y1 y2 y3 y4 f1 f2 f3 f4 p0 ha0 lt lt3 x0 x3;go_upto_region 27 with fail
  rw[<- hu3];clear hu3;go_upto_region 40 with fail
  have R:=HR0.out;obtain⟨V,hV⟩:∃ V,V=u3.setCell ⟨w.heap.size+1+1+1+1,0,none⟩ (.int .i64 e'):=⟨_,rfl⟩;rw[<- hV] at R ⊢;obtain⟨b1,o1,c1,hA1,a0,a1,a2,e0,e1,e2,e3,e4,r0,r1,r2,r3,r4,r5,t0,t1,t2,t3,t4,u0,u1,u2,u3,u4⟩:=R.cells;have HR:=hid (And.intro R hA1);clear R hA1 hV HR0 y0 f0 p1 p2 q0 hne hb hb2;go_region
  all_goals go_wp2
  all_goals
   obtain⟨y0,y1,y2,y3,y4,y5,y6,y7,z3⟩:=HR.out.1.done (c:=c1) HR.out.2 _ rfl _ rfl;refine bodyPost_ret (v:=.tuple #[.agg #[.slice (some ⟨b1,o1,none⟩) 3 c1,.int .i64 h.nx,.int .i64 h.rd],nxA (nxE e')]) (by simp[results,Tryz.results12,go_sem,y0,y1,y2,y3,y4,y5,y6,y7,nxA]) rfl ?_
   exact z3.drew
theorem UC {W:World} {a:Option Addr} {V:List Value} {m B:Nat} (hr:Zd W a V) (hn:NewS B a m) (hl:V.length=m) (p:Addr) (hp:p.block<B) (v:Value):Zd (W.setCell p v) a V:=
 hr.grown (row:=some p.block) (fun h0 b2 o2 s2 e1 e2=>by cases e2; have:=hn (by omega) _ _ _ e1; omega) (Xw W p v)
theorem Z4j (b o c:Nat) (hd:Nat->Hd) (F:List Fi) (s:ByteArray) (d n at_ by_:Int) (fa:Option Addr) (fn fc:Nat) (hA:Arr w b o 3 hd h.A) (hm:Z2 h.A=true):
  Calls Tryz.prog 12 #[.agg #[.slice (some ⟨b,o,none⟩) 3 c,.int .i64 h.nx,.int .i64 h.rd],.agg #[.int .i64 7,.slice fa fn fc,.string s,.int .i64 d,.int .i64 n,.int .i64 at_,.int .i64 by_]] w (Wl w (actScrub h n)):=by
 obtain⟨W,b0,o0,c0,hd0,hW,S0,g2,⟨p0,p3,p4,_⟩,⟨y0,y1,y2,y3,y4⟩,⟨f0,f1,f2,f3,f4⟩,x0,_,_,_,x4,_,_⟩:=Xk (c:=c) 7 F s d n at_ by_ fa fn fc hA hm;have CG:=hid (Z0P (some ⟨b0,o0,none⟩) 3 c0 h.A h.nx h.rd n W (.inr ⟨b0,o0,hd0,rfl,g2⟩));have HM:=hid (TZ h.A h.nx h.rd n);unfold actScrub;generalize arStep h.A h.nx h.rd n=r at CG HM;have HP:=hid S0;clear g2 hA hm S0;obtain⟨A',nx',rd',ct,go,e'⟩:=r
 by_cases he:e'=0
 ·subst he
  go_enter Tryz.func12,Tryz.ntmps12
  go_upto_region 2 with fail
  rw[<- hW];clear hW;go_wp2_with fail
  refine CG.out.mono ?_
  rintro _ w3 ⟨⟨xa,xn,xc,na,nn,nc,rfl,⟨hX,hXn⟩,hN1,hN4⟩,g4⟩;obtain⟨u3,hu3⟩:∃ u3,u3=(w3.alloc (.cells #[.slice xa xn xc] 26)).alloc (.cells #[.int .i64 nx',.int .i64 rd'] 41):=⟨_,rfl⟩;have gu:Below w3.heap.size w3 u3:=by rw[hu3]; go_grown
  have q0:u3.cell? ⟨w3.heap.size,0,none⟩=some (.slice xa xn xc):=by rw[hu3]; simp
  have q1:u3.cell? ⟨w3.heap.size+1,0,none⟩=some (.int .i64 nx'):=by rw[hu3]; simp
  have q2:u3.cell? ⟨w3.heap.size+1,1,none⟩=some (.int .i64 rd'):=by rw[hu3]; simp
  have S3:=(HP.out.to g4).to gu;have lt:=HP.out.lt;have lt3:=g4.size;have hne:¬ w3.heap.size=w.heap.size+1+1+1+1:=by omega
  have hne2:¬ w3.heap.size+1=w.heap.size+1+1+1+1:=by omega
  have hne3:¬ w3.heap.size=w.heap.size:=by omega
  have hne4:¬ w3.heap.size+1=w.heap.size:=by omega
  replace y0:=S3.out.cell (i:=0) rfl;replace y3:=S3.out.cell (i:=3) rfl;replace y4:=S3.out.cell (i:=4) rfl;replace f0:=S3.out.free 0;replace f3:=S3.out.free 3;replace f4:=S3.out.free 4;obtain⟨bh,oh,ch,hdh,k1,k2,k3⟩:=S3.se.ex;have p1:=k1.cell (i:=0) rfl;have p2:=k1.free 0;have p5:=k1.cell (i:=1) rfl;have p6:=k1.free 1;have p7:=k1.cell (i:=2) rfl;have p8:=k1.free 2;have hmx:Z2 A'=true:=HM.out trivial;obtain⟨bx,ox,hdx,hx1,hx2,hAx,hbp⟩:∃ bx ox hdx,xa=some ⟨bx,ox,none⟩∧xn=3∧Arr w3 bx ox 3 hdx A'∧bx≠w.heap.size:=by
   have h3:=((arMay_iff _).1 hmx).1
   rcases hX with ⟨_,e⟩ | ⟨bx,ox,hdx,e1,e2⟩
   ·have e:A'=[]:=e
    rw[e] at h3; cases h3
   ·have hn:xn=3:=by rw[e2.sn]; exact h3
    subst hn
    have:=hXn (by omega) bx ox none e1
    exact⟨bx,ox,hdx,e1,rfl,e2,by omega⟩
  subst hx1;subst hx2;have hnew:NewS (w.heap.size+5) na nn:=hN4.less HP.out.lt;have hnn:(ZX (ups go)).length=nn:=by rw[Zt]; exact hN1.sn.symm
  have R1:=S3.set 0 (.int .i64 0) (nxE 0) (.int .i64 0) rfl (.inl rfl) rfl (nxE_ok _ _) (nxE_new _ _);have R2:=R1.hall 0 (.slice (some ⟨bx,ox,none⟩) 3 xc) ⟨A',h.nx,h.rd⟩ (R1.se.put ((hAx.below gu).keepz hmx (Zv y0 (.inl rfl) _)) hmx hbp xc);have R3:=R2.hall 1 (.int .i64 nx') ⟨A',nx',h.rd⟩ (R2.se.nx nx');have R4:=R3.hall 2 (.int .i64 rd') ⟨A',nx',rd'⟩ (R3.se.rd rd');have R5:=R4.set 3 (.int .i64 ct) ⟨⟨0,[],[],ct,[]⟩,nilS,nilS⟩ (.int .i64 0) rfl (.inl rfl) rfl (Z6k _ _ _ _) (Z1T _ _ _ _);have rr:=UC (UC (UC (UC (UC (hN1.R.below gu) hnew hnn ⟨w.heap.size+1+1+1+1,0,none⟩ (by show w.heap.size+1+1+1+1<w.heap.size+5; omega) (.int .i64 0)) hnew hnn ⟨w.heap.size,0,none⟩ (by show w.heap.size<w.heap.size+5; omega) (.slice (some ⟨bx,ox,none⟩) 3 xc)) hnew hnn ⟨w.heap.size,1,none⟩ (by show w.heap.size<w.heap.size+5; omega) (.int .i64 nx')) hnew hnn ⟨w.heap.size,2,none⟩ (by show w.heap.size<w.heap.size+5; omega) (.int .i64 rd')) hnew hnn ⟨w.heap.size+1+1+1+1,3,none⟩ (by show w.heap.size+1+1+1+1<w.heap.size+5; omega) (.int .i64 ct)
  have R:=R5.set 4 (.slice na nn nc) ⟨⟨0,[],[],ct,go⟩,nilS,⟨na,nn,nc⟩⟩ (.slice none 0 0) rfl (.inr (.inr rfl)) rfl ⟨Zd.nil,rfl,Nat.zero_le _,⟨hN1.sn,hN1.nb,rr⟩⟩ ⟨newS_nil _ _,hnew⟩;have HR0:=hid R;clear R R1 R2 R3 R4 R5 rr S3 CG HP HM g4 gu hX hXn k1 k2 k3 y1 y2 f1 f2 p0 p3 p4 hAx lt lt3 x0 x4 hN1 hN4 hnew hnn hmx;go_upto_region 32 with fail
  rw[<- hu3];clear hu3;go_upto_region 40 with fail
  have R:=HR0.out;obtain⟨V,hV⟩:∃ V,V=(((((u3.setCell ⟨w.heap.size+1+1+1+1,0,none⟩ (.int .i64 0)).setCell ⟨w.heap.size,0,none⟩ (.slice (some ⟨bx,ox,none⟩) 3 xc)).setCell ⟨w.heap.size,1,none⟩ (.int .i64 nx')).setCell ⟨w.heap.size,2,none⟩ (.int .i64 rd')).setCell ⟨w.heap.size+1+1+1+1,3,none⟩ (.int .i64 ct)).setCell ⟨w.heap.size+1+1+1+1,4,none⟩ (.slice na nn nc):=⟨_,rfl⟩;rw[<- hV] at R ⊢;obtain⟨b1,o1,c1,hA1,a0,a1,a2,e0,e1,e2,e3,e4,r0,r1,r2,r3,r4,r5,t0,t1,t2,t3,t4,u0,u1,u2,u3,u4⟩:=R.cells;have HR:=hid (And.intro R hA1);clear R hA1 hV HR0 y0 f0 y3 y4 f3 f4 p1 p2 p5 p6 p7 p8 q0 q1 q2 hne hne2 hne3 hne4;go_region
  all_goals go_wp2
  all_goals
   obtain⟨y0,y1,y2,y3,y4,y5,y6,y7,z3⟩:=HR.out.1.done (c:=c1) HR.out.2 _ rfl _ rfl;refine bodyPost_ret (v:=.tuple #[.agg #[.slice (some ⟨b1,o1,none⟩) 3 c1,.int .i64 (⟨A',nx',rd'⟩:Ha).nx,.int .i64 (⟨A',nx',rd'⟩:Ha).rd],nxA ⟨⟨0,[],[],ct,go⟩,nilS,⟨na,nn,nc⟩⟩]) (by simp[results,Tryz.results12,go_sem,y0,y1,y2,y3,y4,y5,y6,y7,nxA]) rfl ?_
   exact z3.drew
 ·have hb:(e'==0)=false:=beq_eq_false_iff_ne.2 he
  have hb2:decide (e'=0)=false:=decide_eq_false he;rw[if_neg he];go_enter Tryz.func12,Tryz.ntmps12
  go_upto_region 2 with fail
  rw[<- hW];clear hW;go_wp2_with fail
  refine CG.out.mono ?_
  rintro _ w3 ⟨⟨xa,xn,xc,na,nn,nc,rfl,⟨hX,hXn⟩,hN1,hN4⟩,g4⟩;obtain⟨u3,hu3⟩:∃ u3,u3=(w3.alloc (.cells #[.slice xa xn xc] 26)).alloc (.cells #[.int .i64 nx',.int .i64 rd'] 41):=⟨_,rfl⟩;have gu:Below w3.heap.size w3 u3:=by rw[hu3]; go_grown
  have q0:u3.cell? ⟨w3.heap.size,0,none⟩=some (.slice xa xn xc):=by rw[hu3]; simp
  have q1:u3.cell? ⟨w3.heap.size+1,0,none⟩=some (.int .i64 nx'):=by rw[hu3]; simp
  have q2:u3.cell? ⟨w3.heap.size+1,1,none⟩=some (.int .i64 rd'):=by rw[hu3]; simp
  have S3:=(HP.out.to g4).to gu;have lt:=HP.out.lt;have lt3:=g4.size;have hne:¬ w3.heap.size=w.heap.size+1+1+1+1:=by omega
  have hne2:¬ w3.heap.size+1=w.heap.size+1+1+1+1:=by omega
  have hne3:¬ w3.heap.size=w.heap.size:=by omega
  have hne4:¬ w3.heap.size+1=w.heap.size:=by omega
  replace y0:=S3.out.cell (i:=0) rfl;replace y3:=S3.out.cell (i:=3) rfl;replace y4:=S3.out.cell (i:=4) rfl;replace f0:=S3.out.free 0;replace f3:=S3.out.free 3;replace f4:=S3.out.free 4;obtain⟨bh,oh,ch,hdh,k1,k2,k3⟩:=S3.se.ex;have p1:=k1.cell (i:=0) rfl;have p2:=k1.free 0;have p5:=k1.cell (i:=1) rfl;have p6:=k1.free 1;have p7:=k1.cell (i:=2) rfl;have p8:=k1.free 2;have R:=S3.set 0 (.int .i64 e') (nxE e') (.int .i64 0) rfl (.inl rfl) rfl (nxE_ok _ _) (nxE_new _ _);have HR0:=hid R;clear R S3 CG HP HM g4 gu hX hXn k1 k2 k3 y1 y2 y3 y4 f1 f2 f3 f4 p0 p3 p4 lt lt3 x0 x4 hN1 hN4 p1 p2 p5 p6 p7 p8 q0 q1 q2;go_upto_region 32 with fail
  rw[<- hu3];clear hu3;go_upto_region 40 with fail
  have R:=HR0.out;obtain⟨V,hV⟩:∃ V,V=u3.setCell ⟨w.heap.size+1+1+1+1,0,none⟩ (.int .i64 e'):=⟨_,rfl⟩;rw[<- hV] at R ⊢;obtain⟨b1,o1,c1,hA1,a0,a1,a2,e0,e1,e2,e3,e4,r0,r1,r2,r3,r4,r5,t0,t1,t2,t3,t4,u0,u1,u2,u3,u4⟩:=R.cells;have HR:=hid (And.intro R hA1);clear R hA1 hV HR0 y0 f0 hne hne2 hne3 hne4 hb hb2;go_region
  all_goals go_wp2
  all_goals
   obtain⟨y0,y1,y2,y3,y4,y5,y6,y7,z3⟩:=HR.out.1.done (c:=c1) HR.out.2 _ rfl _ rfl;refine bodyPost_ret (v:=.tuple #[.agg #[.slice (some ⟨b1,o1,none⟩) 3 c1,.int .i64 h.nx,.int .i64 h.rd],nxA (nxE e')]) (by simp[results,Tryz.results12,go_sem,y0,y1,y2,y3,y4,y5,y6,y7,nxA]) rfl ?_
   exact z3.drew
theorem Z0T (b o c:Nat) (hd:Nat->Hd) (F:List Fi) (s:ByteArray) (d n at_ by_:Int) (fa:Option Addr) (fn fc:Nat) (hA:Arr w b o 3 hd h.A) (hm:Z2 h.A=true) (hd3:¬ (0<=d∧d<=2)):
  Calls Tryz.prog 12 #[.agg #[.slice (some ⟨b,o,none⟩) 3 c,.int .i64 h.nx,.int .i64 h.rd],.agg #[.int .i64 4,.slice fa fn fc,.string s,.int .i64 d,.int .i64 n,.int .i64 at_,.int .i64 by_]] w (Wl w (h,anE 2)):=by
 obtain⟨W,b0,o0,c0,hd0,hW,S0,g2,⟨p0,_⟩,⟨y0,y1,y2,y3,y4⟩,⟨f0,f1,f2,f3,f4⟩,x0,_,_,x3,_,_,_⟩:=Xk (c:=c) 4 F s d n at_ by_ fa fn fc hA hm;have CI:Hid (∀ wx,Calls Tryz.prog 28 #[.int .i64 d,.int .i64 0,.int .i64 2] wx fun e w'=>e=.returned (.bool false)∧w'=wx):=fun wx=>by
  have:=Zm d 0 2 wx
  rw[decide_eq_false hd3] at this;exact this
 have HP:=hid S0;clear g2 hA hm S0 hd3 p0;go_enter Tryz.func12,Tryz.ntmps12
 go_upto_region 2 with fail
 rw[<- hW];clear hW;go_upto_region 17 with (go_at_call 28; refine (CI.out _).mono ?_; rintro _ w9 ⟨rfl,h9⟩; (have h8:=h9.symm); subst h8)
 have R:=HP.out.set 0 (.int .i64 2) (nxE 2) (.int .i64 0) rfl (.inl rfl) rfl (nxE_ok _ _) (nxE_new _ _);obtain⟨V,hV⟩:∃ V,V=W.setCell ⟨w.heap.size+1+1+1+1,0,none⟩ (.int .i64 2):=⟨_,rfl⟩;rw[<- hV] at R ⊢;obtain⟨b1,o1,c1,hA1,a0,a1,a2,e0,e1,e2,e3,e4,r0,r1,r2,r3,r4,r5,t0,t1,t2,t3,t4,u0,u1,u2,u3,u4⟩:=R.cells;have HR:=hid (And.intro R hA1);clear R hA1 hV HP y0 y1 y2 y3 y4 f0 f1 f2 f3 f4 CI x0 x3;go_region
 all_goals go_wp2
 all_goals
  obtain⟨y0,y1,y2,y3,y4,y5,y6,y7,z3⟩:=HR.out.1.done (c:=c1) HR.out.2 _ rfl _ rfl;refine bodyPost_ret (v:=.tuple #[.agg #[.slice (some ⟨b1,o1,none⟩) 3 c1,.int .i64 h.nx,.int .i64 h.rd],nxA (nxE 2)]) (by simp[results,Tryz.results12,go_sem,y0,y1,y2,y3,y4,y5,y6,y7,nxA]) rfl ?_
  exact z3.drew
theorem Z0S (b o c:Nat) (hd:Nat->Hd) (F:List Fi) (s:ByteArray) (d n at_ by_:Int) (fa:Option Addr) (fn fc:Nat) (hA:Arr w b o 3 hd h.A) (hm:Z2 h.A=true) (hd3:¬ (0<=d∧d<=2)):
  Calls Tryz.prog 12 #[.agg #[.slice (some ⟨b,o,none⟩) 3 c,.int .i64 h.nx,.int .i64 h.rd],.agg #[.int .i64 5,.slice fa fn fc,.string s,.int .i64 d,.int .i64 n,.int .i64 at_,.int .i64 by_]] w (Wl w (h,anE 2)):=by
 obtain⟨W,b0,o0,c0,hd0,hW,S0,g2,⟨p0,_⟩,⟨y0,y1,y2,y3,y4⟩,⟨f0,f1,f2,f3,f4⟩,x0,_,_,x3,_,_,_⟩:=Xk (c:=c) 5 F s d n at_ by_ fa fn fc hA hm;have CI:Hid (∀ wx,Calls Tryz.prog 28 #[.int .i64 d,.int .i64 0,.int .i64 2] wx fun e w'=>e=.returned (.bool false)∧w'=wx):=fun wx=>by
  have:=Zm d 0 2 wx
  rw[decide_eq_false hd3] at this;exact this
 have HP:=hid S0;clear g2 hA hm S0 hd3 p0;go_enter Tryz.func12,Tryz.ntmps12
 go_upto_region 2 with fail
 rw[<- hW];clear hW;go_upto_region 17 with (go_at_call 28; refine (CI.out _).mono ?_; rintro _ w9 ⟨rfl,h9⟩; (have h8:=h9.symm); subst h8)
 have R:=HP.out.set 0 (.int .i64 2) (nxE 2) (.int .i64 0) rfl (.inl rfl) rfl (nxE_ok _ _) (nxE_new _ _);obtain⟨V,hV⟩:∃ V,V=W.setCell ⟨w.heap.size+1+1+1+1,0,none⟩ (.int .i64 2):=⟨_,rfl⟩;rw[<- hV] at R ⊢;obtain⟨b1,o1,c1,hA1,a0,a1,a2,e0,e1,e2,e3,e4,r0,r1,r2,r3,r4,r5,t0,t1,t2,t3,t4,u0,u1,u2,u3,u4⟩:=R.cells;have HR:=hid (And.intro R hA1);clear R hA1 hV HP y0 y1 y2 y3 y4 f0 f1 f2 f3 f4 CI x0 x3;go_region
 all_goals go_wp2
 all_goals
  obtain⟨y0,y1,y2,y3,y4,y5,y6,y7,z3⟩:=HR.out.1.done (c:=c1) HR.out.2 _ rfl _ rfl;refine bodyPost_ret (v:=.tuple #[.agg #[.slice (some ⟨b1,o1,none⟩) 3 c1,.int .i64 h.nx,.int .i64 h.rd],nxA (nxE 2)]) (by simp[results,Tryz.results12,go_sem,y0,y1,y2,y3,y4,y5,y6,y7,nxA]) rfl ?_
  exact z3.drew
theorem Zc.keep0 {w:World} {x y:Option Addr} {n m:Nat} {D:Dv} (h:Zc w x n y m D) {p:Addr} {k:Int} (hp:w.cell? p=some (.int .i64 k)) (u:Value):Zc (w.setCell p u) x n y m D:=by
 refine⟨h.sn,h.sm,?_,?_,h.nb,h.mb⟩
 ·intro i v hv
  obtain⟨b,o,e,hlt,hc⟩:=h.S i v hv;refine⟨b,o,e,by rw[Z3]; exact hlt,?_⟩
  rw[World.cell?_setCell_other _ _ _ _ (fun e2=>?_)]
  ·exact hc
  ·rw[e2,hc] at hp
   obtain⟨s,_,rfl⟩:=List.mem_map.1 (List.mem_of_getElem? hv)
   cases hp
 ·intro i v hv
  obtain⟨b,o,e,hlt,hc⟩:=h.L i v hv;refine⟨b,o,e,by rw[Z3]; exact hlt,?_⟩
  rw[World.cell?_setCell_other _ _ _ _ (fun e2=>?_)]
  ·exact hc
  ·rw[e2,hc] at hp
   obtain⟨s,_,rfl⟩:=List.mem_map.1 (List.mem_of_getElem? hv)
   cases hp
theorem Yj {W w:World} {pd:Nat} {x y:Option Addr} {n m:Nat} {D:Dv} {a a':Option Addr} {k c k' c':Nat} (hG:Below W.heap.size W w) (hD:Zc w x n y m D) (hO:Own w pd 56 [.slice a k c,.slice a' k' c']) (hp:W.heap.size<=pd) (u v:Nat):
  Zc ((w.setCell ⟨pd,0,none⟩ (.slice x n u)).setCell ⟨pd,1,none⟩ (.slice y m v)) x n y m D∧Own ((w.setCell ⟨pd,0,none⟩ (.slice x n u)).setCell ⟨pd,1,none⟩ (.slice y m v)) pd 56 [.slice x n u,.slice y m v]∧W.heap.size<=pd∧Below W.heap.size W ((w.setCell ⟨pd,0,none⟩ (.slice x n u)).setCell ⟨pd,1,none⟩ (.slice y m v)):=by
 have h0:Own (w.setCell ⟨pd,0,none⟩ (.slice x n u)) pd 56 [.slice x n u,.slice a' k' c']:=hO.set (i:=0) (by simp) _
 have h1:Own ((w.setCell ⟨pd,0,none⟩ (.slice x n u)).setCell ⟨pd,1,none⟩ (.slice y m v)) pd 56 [.slice x n u,.slice y m v]:=h0.set (i:=1) (by simp) _
 exact⟨(hD.slices (hO.cell (i:=0) rfl) _).slices (h0.cell (i:=1) rfl) _,h1,hp,(hG.setCell (p:=⟨pd,0,none⟩) hp _).setCell (p:=⟨pd,1,none⟩) hp _⟩
theorem RdI.dev {w W:World} {h:Ha} {q:Ax} {k:Int} (H:RdI w h q (nxE k) W) {b c:Nat} {hd:Nat->Hd} (hc:W.cell? ⟨w.heap.size,0,none⟩=some (.slice (some ⟨b,0,none⟩) 3 c)) (F:Z4 W b 0 3 hd h.A) (hb:w.heap.size+5<=b) (i:Nat) (hi:i<3) (d:Hd) (D:Dv) (hD:Zc W d.x d.p d.y d.q D) (hm:Z2 (h.A.set i D)=true):
  RdI w ⟨h.A.set i D,h.nx,h.rd⟩ q (nxE k) ((W.setCell ⟨b,i*2,none⟩ (.slice d.x d.p d.c)).setCell ⟨b,i*2+1,none⟩ (.slice d.y d.q d.d)):=by
 obtain⟨_,k1,_⟩:=F.store0 i hi d D hD;have hne:∀ j,j≠b->((W.setCell ⟨b,i*2,none⟩ (.slice d.x d.p d.c)).setCell ⟨b,i*2+1,none⟩ (.slice d.y d.q d.d)).heap[j]?=W.heap[j]?:=fun j hj=>by
  rw[Below.heap_setCell _ ⟨b,i*2+1,none⟩ _ _ hj,Below.heap_setCell _ ⟨b,i*2,none⟩ _ _ hj]
 obtain⟨b1,o1,c1,hd1,j1,_,_⟩:=H.se.ex;have e:=(j1.cell (i:=0) rfl).symm.trans hc;cases e
 exact⟨⟨⟨b,0,c,_,j1.of_block (hne _ (by omega)),k1.arr,by omega⟩,hm⟩,H.ax.of_block (hne _ (by omega)),H.rh.of_block (hne _ (by omega)),H.ra.of_block (hne _ (by omega)),H.out.of_block (hne _ (by omega)),nxE_ok _ _,nxE_new _ _,(H.below.setCell (p:=⟨b,i*2,none⟩) (by show w.heap.size<=b; omega) _).setCell (p:=⟨b,i*2+1,none⟩) (by show w.heap.size<=b; omega) _,by rw[Z3,Z3]; exact H.lt⟩
theorem Z6e (b o c:Nat) (hd:Nat->Hd) (F:List Fi) (s:ByteArray) (d n at_ by_:Int) (fa:Option Addr) (fn fc:Nat) (hA:Arr w b o 3 hd h.A) (hm:Z2 h.A=true) (dn:Nat) (hdn:dn<3) (hdd:d=(dn:Int)):
  Calls Tryz.prog 12 #[.agg #[.slice (some ⟨b,o,none⟩) 3 c,.int .i64 h.nx,.int .i64 h.rd],.agg #[.int .i64 4,.slice fa fn fc,.string s,.int .i64 d,.int .i64 n,.int .i64 at_,.int .i64 by_]] w (Wl w (Xs h ⟨4,F,s,d,n,at_,by_⟩)):=by
 obtain⟨W,b0,o0,c0,hd0,hW,S0,g2,⟨p0,_⟩,⟨y0,y1,y2,y3,y4⟩,⟨f0,f1,f2,f3,f4⟩,x0,_,_,x3,x4,_,_⟩:=Xk (c:=c) 4 F s d n at_ by_ fa fn fc hA hm;subst hdd;have CI:Hid (∀ wx,Calls Tryz.prog 28 #[.int .i64 dn,.int .i64 0,.int .i64 2] wx fun e w'=>e=.returned (.bool true)∧w'=wx):=fun wx=>by
  have:=Zm dn 0 2 wx
  rw[decide_eq_true (show 0<=(dn:Int)∧(dn:Int)<=2 by omega)] at this
  exact this
 have m0:=g2.c0 dn hdn;have m1:=g2.c1 dn hdn;have md:=g2.dv dn hdn;generalize hd0 dn=t at m0 m1 md;obtain⟨lx,lp,lc,ly,lq,ld⟩:=t;dsimp only at m0 m1 md;have CL:=hid (fun wx (g:Below W.heap.size W wx)=>WO lx lp lc ly lq ld n (dev h.A dn) wx (md.below g))
 have hk:(dvLose (dev h.A dn) n).2=0->Z2 (h.A.set dn (dvLose (dev h.A dn) n).1)=true:=fun e=>by
  have q:=YI h.A ⟨4,F,s,dn,n,at_,by_⟩;rw[Wt] at q;exact (U1 h.A hm dn hdn _ (q e).1 (q e).2).1
 have hres:Xs h ⟨4,F,s,dn,n,at_,by_⟩=if (dvLose (dev h.A dn) n).2=0 then ((⟨h.A.set dn (dvLose (dev h.A dn) n).1,h.nx,h.rd⟩:Ha),anE 0) else (h,anE (dvLose (dev h.A dn) n).2):=by
  unfold Xs;rw[Wt,if_pos (show 0<=(dn:Int)∧(dn:Int)<=2 by omega)]
  rfl
 rw[hres];have HA:=hid (fun (wx:World) (g:Below W.heap.size W wx)=>And.intro (cell_at g p0) (And.intro (cell_at g x3) (And.intro (cell_at g x4) (And.intro (cell_at g m0) (cell_at g m1)))))
 obtain⟨ra9,hra⟩:∃ r,(if (dvLose (dev h.A dn) n).2=0 then ((⟨h.A.set dn (dvLose (dev h.A dn) n).1,h.nx,h.rd⟩:Ha),anE 0) else (h,anE (dvLose (dev h.A dn) n).2))=r:=⟨_,rfl⟩
 rw[hra];generalize dvLose (dev h.A dn) n=X at CL hk hra;obtain⟨D',e'⟩:=X;dsimp only at hk hra;have HRA:=hid hra;have HP:=hid (And.intro S0 (And.intro hm (And.intro hk hdn)));have hdn':(dn:Int)<3:=by omega
 have hdn2:¬ (dn:Int)<0:=by omega
 clear g2 hA hm S0 md hres hk hra;go_enter Tryz.func12,Tryz.ntmps12
 go_upto_region 2 with fail
 rw[<- hW];clear hW;go_upto_region 18 with (go_at_call 28; refine (CI.out _).mono ?_; rintro _ w9 ⟨rfl,h9⟩; (have h8:=h9.symm); subst h8)
 go_cut [9,10] (fun s9 s10 wx=>∃ pd ra rn rc rb rm rd2,s9=.pointer (some ⟨pd,0,none⟩)∧s10=.int .i64 e'∧Zc wx ra rn rb rm D'∧Own wx pd 56 [.slice ra rn rc,.slice rb rm rd2]∧W.heap.size<=pd∧Below W.heap.size W wx)
 case first=>
  refine Zq (fun w'=>w'.cell? ⟨w.heap.size,0,none⟩=some (.slice (some ⟨b0,o0,none⟩) 3 c0)∧w'.cell? ⟨w.heap.size+1,3,none⟩=some (.int .i64 dn)∧w'.cell? ⟨w.heap.size+1,4,none⟩=some (.int .i64 n)∧w'.cell? ⟨b0,o0+dn*2,none⟩=some (.slice lx lp lc)∧w'.cell? ⟨b0,o0+dn*2+1,none⟩=some (.slice ly lq ld)) (fun _=>True) 14 (by kernel_rfl) (HA.out _ (Below.refl _ W).drew) trivial (fun hT=>?_)
  have S0:Hid (Below W.heap.size W W.drew):=(Below.refl _ W).drew;clear p0 x3 x4 m0 m1 y0 y1 y2 y3 y4 f0 f1 f2 f3 f4;refine tkn (i:=0) rfl (by kernel_rfl) (fun _ _ _ h=>h) (by rfl) (by intro w h; (try dsimp only at h); go_simp; first | done | with_reducible rfl) hT ?_
  clear hT; intro hT; try simp only[Act.put,List.setIfInBounds_toArray,List.set]
  refine tkn (i:=1) rfl (by kernel_rfl) (fun _ _ _ h=>h) (by rfl) (by intro w h; (try dsimp only at h); go_simp; first | done | with_reducible rfl) hT ?_
  clear hT; intro hT; try simp only[Act.put,List.setIfInBounds_toArray,List.set]
  refine tkn (i:=2) rfl (by kernel_rfl) (fun _ _ _ h=>h) (by rfl) (by intro w h; (try dsimp only at h); go_simp; first | done | with_reducible rfl) hT ?_
  clear hT; intro hT; try simp only[Act.put,List.setIfInBounds_toArray,List.set]
  refine tkn (i:=3) rfl (by kernel_rfl) (fun _ _ _ h=>h) (by rfl) (by intro w h; (try dsimp only at h); go_simp; first | done | with_reducible rfl) hT ?_
  clear hT; intro hT; try simp only[Act.put,List.setIfInBounds_toArray,List.set]
  refine tkn (i:=4) rfl (by kernel_rfl) (fun _ _ _ h=>h) (by rfl) (by intro w h; (try dsimp only at h); go_simp; first | done | with_reducible rfl) hT ?_
  clear hT; intro hT; try simp only[Act.put,List.setIfInBounds_toArray,List.set]
  refine tkn (i:=5) rfl (by kernel_rfl) (fun _ _ _ h=>h) (by rfl) (by intro w h; (try dsimp only at h); go_simp; first | done | with_reducible rfl) hT ?_
  clear hT; intro hT; try simp only[Act.put,List.setIfInBounds_toArray,List.set]
  refine tkn (i:=6) rfl (by kernel_rfl) (fun _ _ _ h=>h) (by rfl) (by intro w h; (try dsimp only at h); go_simp; first | done | with_reducible rfl) hT ?_
  clear hT; intro hT; try simp only[Act.put,List.setIfInBounds_toArray,List.set]
  refine tkn (i:=7) rfl (by kernel_rfl) (fun _ _ _ h=>h) (by rfl) (by intro w h; (try dsimp only at h); go_simp; first | done | with_reducible rfl) hT ?_
  clear hT; intro hT; try simp only[Act.put,List.setIfInBounds_toArray,List.set]
  refine tkn (i:=8) rfl (by kernel_rfl) (fun _ _ _ h=>h) (by rfl) (by intro w h; (try dsimp only at h); go_simp; first | done | with_reducible rfl) hT ?_
  clear hT; intro hT; try simp only[Act.put,List.setIfInBounds_toArray,List.set]
  generalize W.drew=V at S0 hT ⊢;refine Xe (i:=9) (j:=13) rfl rfl (by kernel_rfl) (fun K hK=>?_) (fun K hK=>?_)
  ·go_simp
   go_at_call 33
   refine (CL.out _ S0.out).mono ?_
   rintro _ x1 ⟨ra,rn,rc,rb,rm,rd2,rfl,hD,_,j1⟩;have S1:Hid (Below W.heap.size W x1∧Zc x1 ra rn rb rm D'):=⟨bel3 S0.out j1,hD⟩;refine hK.out _ _ ?hs1 ?rs1
   case hs1=>exact⟨HA.out _ S1.out.1,fun _=>trivial⟩
   clear hT hK K hD j1 S0; intro hT
   refine tkn (i:=10) rfl (by kernel_rfl) (fun _ _ _ h=>h) (by rfl) (by intro w h; (try dsimp only at h); go_simp; first | done | with_reducible rfl) hT ?_
   clear hT; intro hT; try simp only[Act.put,List.setIfInBounds_toArray,List.set]
   refine tkn (i:=11) rfl (by kernel_rfl) (fun _ _ _ h=>h) (by rfl) (by intro w h; (try dsimp only at h); go_simp; first | done | with_reducible rfl) hT ?_
   clear hT; intro hT; try simp only[Act.put,List.setIfInBounds_toArray,List.set]
   refine tkn (i:=12) rfl (by kernel_rfl) (fun _ _ _ h=>h) (by rfl) (by intro w h; (try dsimp only at h); go_simp; first | done | with_reducible rfl) hT ?_
   clear hT; intro hT; try simp only[Act.put,List.setIfInBounds_toArray,List.set]
   refine Z0 (i:=13) rfl (by kernel_rfl) (fun K hK=>?_)
   go_simp;obtain⟨pd,e2⟩:∃ pd,x1.heap.size=pd:=⟨_,rfl⟩;obtain⟨x2,f2⟩:∃ x2,x1.alloc (.cells #[.slice none 0 0,.slice none 0 0] 56)=x2:=⟨_,rfl⟩;have b2:Below x1.heap.size x1 x2:=by rw[<- f2]; exact (Below.refl _ x1).alloc (Nat.le_refl _) _
   have o2:Own x2 pd 56 [.slice none 0 0,.slice none 0 0]:=by rw[<- f2,<- e2]; exact Own.made x1 56 [.slice none 0 0,.slice none 0 0]
   have S2:Hid (Below W.heap.size W x2∧Zc x2 ra rn rb rm D'∧Own x2 pd 56 [.slice none 0 0,.slice none 0 0]∧W.heap.size<=pd):=⟨bel3 S1.out.1 b2,S1.out.2.below b2,o2,by rw[<- e2]; exact S1.out.1.size⟩
   rw[e2,f2];refine hK.out _ _ ?hs5 ?rs5
   case hs5=>exact⟨HA.out _ S2.out.1,fun _=>trivial⟩
   clear hT hK K e2 f2 b2 o2 S1; intro hT; try simp only[Act.put,List.setIfInBounds_toArray,List.set]
   have q0:=S2.out.2.2.1.cell (i:=0) rfl;have q1:=S2.out.2.2.1.cell (i:=1) rfl;have q2:=S2.out.2.2.1.free 0;have q3:=S2.out.2.2.1.free 1;refine Z0 (i:=14) rfl (by kernel_rfl) (fun K hK=>?_)
   go_simp;clear q0 q1 q2 q3;have T:=hid (Yj S2.out.1 S2.out.2.1 S2.out.2.2.1 S2.out.2.2.2 rc rd2);obtain⟨y,hy⟩:∃ y,(x2.setCell ⟨pd,0,none⟩ (.slice ra rn rc)).setCell ⟨pd,1,none⟩ (.slice rb rm rd2)=y:=⟨_,rfl⟩;rw[hy] at T ⊢;clear hy;refine hK.out _ _ ?hs6 ?rs6
   case hs6=>exact⟨HA.out _ T.out.2.2.2,fun _=>trivial⟩
   clear hT hK K S2; intro hT; try simp only[Act.put,List.setIfInBounds_toArray,List.set]
   refine tkn (i:=15) rfl (by kernel_rfl) (fun _ _ _ h=>h) (by rfl) (by intro w h; (try dsimp only at h); go_simp; first | done | with_reducible rfl) hT ?_
   clear hT; intro hT; try simp only[Act.put,List.setIfInBounds_toArray,List.set]
   refine Zw (by kernel_rfl) ?_ _
   go_wp2_with fail
   go_meet
   exact⟨pd,ra,rn,rc,rb,rm,rd2,rfl,rfl,T.out⟩
  ·go_simp
   obtain⟨pd,e2⟩:∃ pd,V.heap.size=pd:=⟨_,rfl⟩;obtain⟨x2,f2⟩:∃ x2,V.alloc (.cells #[.slice none 0 0,.slice none 0 0] 56)=x2:=⟨_,rfl⟩;have b2:Below V.heap.size V x2:=by rw[<- f2]; exact (Below.refl _ V).alloc (Nat.le_refl _) _
   have o2:Own x2 pd 56 [.slice none 0 0,.slice none 0 0]:=by rw[<- f2,<- e2]; exact Own.made V 56 [.slice none 0 0,.slice none 0 0]
   have S1:Hid (Below W.heap.size W x2∧Own x2 pd 56 [.slice none 0 0,.slice none 0 0]∧W.heap.size<=pd):=⟨bel3 S0.out b2,o2,by rw[<- e2]; exact S0.out.size⟩
   rw[e2,f2];refine hK.out _ _ ?hs7 ?rs7
   case hs7=>exact⟨HA.out _ S1.out.1,fun _=>trivial⟩
   clear hT hK K e2 f2 b2 o2 S0; intro hT; try simp only[Act.put,List.setIfInBounds_toArray,List.set]
   refine Z0 (i:=9) rfl (by kernel_rfl) (fun K hK=>?_)
   go_simp
   go_at_call 33
   refine (CL.out _ S1.out.1).mono ?_
   rintro _ x1 ⟨ra,rn,rc,rb,rm,rd2,rfl,hD,_,j1⟩;have S2:Hid (Below W.heap.size W x1∧Zc x1 ra rn rb rm D'∧Own x1 pd 56 [.slice none 0 0,.slice none 0 0]∧W.heap.size<=pd):=⟨bel3 S1.out.1 j1,hD,S1.out.2.1.below' j1,S1.out.2.2⟩;refine hK.out _ _ ?hs11 ?rs11
   case hs11=>exact⟨HA.out _ S2.out.1,fun _=>trivial⟩
   clear hT hK K hD j1 S1; intro hT
   refine tkn (i:=10) rfl (by kernel_rfl) (fun _ _ _ h=>h) (by rfl) (by intro w h; (try dsimp only at h); go_simp; first | done | with_reducible rfl) hT ?_
   clear hT; intro hT; try simp only[Act.put,List.setIfInBounds_toArray,List.set]
   refine tkn (i:=11) rfl (by kernel_rfl) (fun _ _ _ h=>h) (by rfl) (by intro w h; (try dsimp only at h); go_simp; first | done | with_reducible rfl) hT ?_
   clear hT; intro hT; try simp only[Act.put,List.setIfInBounds_toArray,List.set]
   refine tkn (i:=12) rfl (by kernel_rfl) (fun _ _ _ h=>h) (by rfl) (by intro w h; (try dsimp only at h); go_simp; first | done | with_reducible rfl) hT ?_
   clear hT; intro hT; try simp only[Act.put,List.setIfInBounds_toArray,List.set]
   have q0:=S2.out.2.2.1.cell (i:=0) rfl;have q1:=S2.out.2.2.1.cell (i:=1) rfl;have q2:=S2.out.2.2.1.free 0;have q3:=S2.out.2.2.1.free 1;refine Z0 (i:=14) rfl (by kernel_rfl) (fun K hK=>?_)
   go_simp;clear q0 q1 q2 q3;have T:=hid (Yj S2.out.1 S2.out.2.1 S2.out.2.2.1 S2.out.2.2.2 rc rd2);obtain⟨y,hy⟩:∃ y,(x1.setCell ⟨pd,0,none⟩ (.slice ra rn rc)).setCell ⟨pd,1,none⟩ (.slice rb rm rd2)=y:=⟨_,rfl⟩;rw[hy] at T ⊢;clear hy;refine hK.out _ _ ?hs12 ?rs12
   case hs12=>exact⟨HA.out _ T.out.2.2.2,fun _=>trivial⟩
   clear hT hK K S2; intro hT; try simp only[Act.put,List.setIfInBounds_toArray,List.set]
   refine tkn (i:=15) rfl (by kernel_rfl) (fun _ _ _ h=>h) (by rfl) (by intro w h; (try dsimp only at h); go_simp; first | done | with_reducible rfl) hT ?_
   clear hT; intro hT; try simp only[Act.put,List.setIfInBounds_toArray,List.set]
   refine Zw (by kernel_rfl) ?_ _
   go_wp2_with fail
   go_meet
   exact⟨pd,ra,rn,rc,rb,rm,rd2,rfl,rfl,T.out⟩
 case rest=>
  obtain⟨pd,ra,rn,rc,rb,rm,rd2,rfl,rfl,hD,hO,hpd,hG⟩:=hcut;have S3:=HP.out.1.to hG;replace x0:=S3.ax.cell (i:=0) rfl;replace x3:=S3.ax.cell (i:=3) rfl;replace y0:=S3.out.cell (i:=0) rfl;replace f0:=S3.out.free 0;have hlt:=HP.out.1.lt;clear HA CL y1 y2 y3 y4 f1 f2 f3 f4 p0 m0 m1 x4
  by_cases he:e'=0
  ·have hm1:=HP.out.2.2.1 he
   rw[he];go_upto_region 23 with fail
   have R1:=S3.set 0 (.int .i64 0) (nxE 0) (.int .i64 0) rfl (.inl rfl) rfl (nxE_ok _ _) (nxE_new _ _);have D1:=hid (hD.keep0 y0 (.int .i64 0));have O1:=hid ((hO.other (p:=⟨w.heap.size+1+1+1+1,0,none⟩) (by show pd≠w.heap.size+1+1+1+1; have:=HP.out.1.lt; omega) (.int .i64 0)))
   have lt3:=S3.lt;have ltp:=hO.lt;obtain⟨V,hV⟩:∃ V,V=wc.setCell ⟨w.heap.size+1+1+1+1,0,none⟩ (.int .i64 0):=⟨_,rfl⟩;rw[<- hV] at R1 D1 O1 ⊢;clear hV S3 y0 f0 hD hO;obtain⟨b1,o1,c1,hd1,k1,k2,k3⟩:=R1.se.ex;have p1:=k1.cell (i:=0) rfl;have p2:=k1.free 0;have CC:=hid (XR (some ⟨b1,o1,none⟩) 3 c1 h.A V (.inr ⟨b1,o1,hd1,rfl,k2⟩) (ZN h.A HP.out.2.1));have HR1:=hid R1;clear k1 k2 k3 R1;go_wp2_with fail
   refine CC.out.mono ?_
   rintro _ w4 ⟨a4,c4,rfl,h4,g4⟩
   rcases h4 with ⟨h40,_⟩ | ⟨b4,hd4,rfl,hb4,F4⟩
   ·omega
   have S4:=HR1.out.to g4;have lt4:=HR1.out.lt;obtain⟨b5,o5,c5,hd5,k1,k2,k3⟩:=S4.se.ex;have p3:=k1.cell (i:=0) rfl;have p4:=k1.free 0;have hne:b4≠w.heap.size:=by omega
   have R5:=S4.hall 0 (.slice (some ⟨b4,0,none⟩) 3 c4) h (S4.se.put F4.arr HP.out.2.1 hne c4);have F5:=F4.box (p:=w.heap.size) (fun e=>hne e.symm) p3 (.slice (some ⟨b4,0,none⟩) 3 c4)
   have D5:=(D1.out.below g4).slices p3 (.slice (some ⟨b4,0,none⟩) 3 c4);have O5:=(O1.out.below' g4).other (p:=⟨w.heap.size,0,none⟩) (by show pd≠w.heap.size; have:=HP.out.1.lt; omega) (.slice (some ⟨b4,0,none⟩) 3 c4)
   clear CC p1 p2 D1 O1 S4 k2 k3 HR1 g4;have z0:=(k1.set (i:=0) (by simp) (.slice (some ⟨b4,0,none⟩) 3 c4)).cell (i:=0) rfl
   clear k1;go_upto_region 24 with fail
   obtain⟨W5,hW5⟩:∃ W5,W5=w4.setCell ⟨w.heap.size,0,none⟩ (.slice (some ⟨b4,0,none⟩) 3 c4):=⟨_,rfl⟩;rw[<- hW5] at R5 F5 D5 O5 z0 ⊢;clear hW5 p3 p4 F4;have q0:=O5.cell (i:=0) rfl;have q1:=O5.cell (i:=1) rfl;have x3:=R5.ax.cell (i:=3) rfl;obtain⟨⟨v0,v1,v2,v3⟩,_,_⟩:=F5.store0 dn HP.out.2.2.2 ⟨ra,rn,rc,rb,rm,rd2⟩ D' D5;have HR0:=hid (R5.dev z0 F5 (by omega) dn HP.out.2.2.2 ⟨ra,rn,rc,rb,rm,rd2⟩ D' D5 hm1)
   clear R5 F5 D5 O5 hm1;go_upto_region 40 with fail
   have R:=HR0.out;obtain⟨V,hV⟩:∃ V,V=(W5.setCell ⟨b4,dn*2,none⟩ (.slice ra rn rc)).setCell ⟨b4,dn*2+1,none⟩ (.slice rb rm rd2):=⟨_,rfl⟩;rw[<- hV] at R ⊢;obtain⟨b1,o1,c1,hA1,a0,a1,a2,e0,e1,e2,e3,e4,r0,r1,r2,r3,r4,r5,t0,t1,t2,t3,t4,u0,u1,u2,u3,u4⟩:=R.cells;have HR:=hid (And.intro R hA1);clear R hA1 hV HR0 z0 q0 q1 x3 v0 v1 v2 v3;go_region
   all_goals go_wp2
   all_goals
    obtain⟨y0,y1,y2,y3,y4,y5,y6,y7,z3⟩:=HR.out.1.done (c:=c1) HR.out.2 _ rfl _ rfl;refine bodyPost_ret (v:=.tuple #[.agg #[.slice (some ⟨b1,o1,none⟩) 3 c1,.int .i64 h.nx,.int .i64 h.rd],nxA (nxE 0)]) (by simp[results,Tryz.results12,go_sem,y0,y1,y2,y3,y4,y5,y6,y7,nxA]) rfl ?_
    rw[<- HRA.out,if_pos he];exact z3.drew
  ·have hb:(e'==0)=false:=beq_eq_false_iff_ne.2 he
   have hb2:decide (e'=0)=false:=decide_eq_false he;go_upto_region 40 with fail
   have R:=S3.set 0 (.int .i64 e') (nxE e') (.int .i64 0) rfl (.inl rfl) rfl (nxE_ok _ _) (nxE_new _ _);clear S3 hD hO;obtain⟨V,hV⟩:∃ V,V=wc.setCell ⟨w.heap.size+1+1+1+1,0,none⟩ (.int .i64 e'):=⟨_,rfl⟩;rw[<- hV] at R ⊢;obtain⟨b1,o1,c1,hA1,a0,a1,a2,e0,e1,e2,e3,e4,r0,r1,r2,r3,r4,r5,t0,t1,t2,t3,t4,u0,u1,u2,u3,u4⟩:=R.cells;have HR:=hid (And.intro R hA1);clear R hA1 hV y0 f0 hb hb2;go_region
   all_goals go_wp2
   all_goals
    obtain⟨y0,y1,y2,y3,y4,y5,y6,y7,z3⟩:=HR.out.1.done (c:=c1) HR.out.2 _ rfl _ rfl;refine bodyPost_ret (v:=.tuple #[.agg #[.slice (some ⟨b1,o1,none⟩) 3 c1,.int .i64 h.nx,.int .i64 h.rd],nxA (nxE e')]) (by simp[results,Tryz.results12,go_sem,y0,y1,y2,y3,y4,y5,y6,y7,nxA]) rfl ?_
    rw[<- HRA.out,if_neg he];exact z3.drew
theorem Z6d (b o c:Nat) (hd:Nat->Hd) (F:List Fi) (s:ByteArray) (d n at_ by_:Int) (fa:Option Addr) (fn fc:Nat) (hA:Arr w b o 3 hd h.A) (hm:Z2 h.A=true) (dn:Nat) (hdn:dn<3) (hdd:d=(dn:Int)):
  Calls Tryz.prog 12 #[.agg #[.slice (some ⟨b,o,none⟩) 3 c,.int .i64 h.nx,.int .i64 h.rd],.agg #[.int .i64 5,.slice fa fn fc,.string s,.int .i64 d,.int .i64 n,.int .i64 at_,.int .i64 by_]] w (Wl w (Xs h ⟨5,F,s,d,n,at_,by_⟩)):=by
 obtain⟨W,b0,o0,c0,hd0,hW,S0,g2,⟨p0,_⟩,⟨y0,y1,y2,y3,y4⟩,⟨f0,f1,f2,f3,f4⟩,x0,_,_,x3,x4,x5,x6⟩:=Xk (c:=c) 5 F s d n at_ by_ fa fn fc hA hm;subst hdd;have CI:Hid (∀ wx,Calls Tryz.prog 28 #[.int .i64 dn,.int .i64 0,.int .i64 2] wx fun e w'=>e=.returned (.bool true)∧w'=wx):=fun wx=>by
  have:=Zm dn 0 2 wx
  rw[decide_eq_true (show 0<=(dn:Int)∧(dn:Int)<=2 by omega)] at this
  exact this
 have m0:=g2.c0 dn hdn;have m1:=g2.c1 dn hdn;have md:=g2.dv dn hdn;generalize hd0 dn=t at m0 m1 md;obtain⟨lx,lp,lc,ly,lq,ld⟩:=t;dsimp only at m0 m1 md;have CL:=hid (fun wx (g:Below W.heap.size W wx)=>WO lx lp lc ly lq ld n (dev h.A dn) wx (md.below g))
 have CM:=hid (fun wx (g:Below W.heap.size W wx)=>Qd lx lp lc ly lq ld n at_ by_ (dev h.A dn) wx (md.below g))
 have hk:(dvTurn (dev h.A dn) n at_ by_).2=0->Z2 (h.A.set dn (dvTurn (dev h.A dn) n at_ by_).1)=true:=fun e=>by
  have q:=YI h.A ⟨5,F,s,dn,n,at_,by_⟩;rw[Ws] at q;exact (U1 h.A hm dn hdn _ (q e).1 (q e).2).1
 have hres:Xs h ⟨5,F,s,dn,n,at_,by_⟩=if (dvTurn (dev h.A dn) n at_ by_).2=0 then ((⟨h.A.set dn (dvTurn (dev h.A dn) n at_ by_).1,h.nx,h.rd⟩:Ha),anE 0) else (h,anE (dvTurn (dev h.A dn) n at_ by_).2):=by
  unfold Xs;rw[Ws,if_pos (show 0<=(dn:Int)∧(dn:Int)<=2 by omega)]
  rfl
 rw[hres];have HA:=hid (fun (wx:World) (g:Below W.heap.size W wx)=>And.intro (cell_at g p0) (And.intro (cell_at g x3) (And.intro (cell_at g x4) (And.intro (cell_at g m0) (And.intro (cell_at g m1) (And.intro (cell_at g x5) (cell_at g x6)))))))
 obtain⟨ra9,hra⟩:∃ r,(if (dvTurn (dev h.A dn) n at_ by_).2=0 then ((⟨h.A.set dn (dvTurn (dev h.A dn) n at_ by_).1,h.nx,h.rd⟩:Ha),anE 0) else (h,anE (dvTurn (dev h.A dn) n at_ by_).2))=r:=⟨_,rfl⟩
 rw[hra];generalize dvTurn (dev h.A dn) n at_ by_=X at CM hk hra;generalize dvLose (dev h.A dn) n=X0 at CL;obtain⟨D',e'⟩:=X;obtain⟨D0,e0⟩:=X0;dsimp only at hk hra;have HRA:=hid hra;have HP:=hid (And.intro S0 (And.intro hm (And.intro hk hdn)));have hdn':(dn:Int)<3:=by omega
 have hdn2:¬ (dn:Int)<0:=by omega
 clear g2 hA hm S0 md hres hk hra;go_enter Tryz.func12,Tryz.ntmps12
 go_upto_region 2 with fail
 rw[<- hW];clear hW;go_upto_region 18 with (go_at_call 28; refine (CI.out _).mono ?_; rintro _ w9 ⟨rfl,h9⟩; (have h8:=h9.symm); subst h8)
 go_cut [9,10] (fun s9 s10 wx=>∃ pd ra rn rc rb rm rd2,s9=.pointer (some ⟨pd,0,none⟩)∧s10=.int .i64 e0∧Zc wx ra rn rb rm D0∧Own wx pd 56 [.slice ra rn rc,.slice rb rm rd2]∧W.heap.size<=pd∧Below W.heap.size W wx)
 case first=>
  refine Zq (fun w'=>w'.cell? ⟨w.heap.size,0,none⟩=some (.slice (some ⟨b0,o0,none⟩) 3 c0)∧w'.cell? ⟨w.heap.size+1,3,none⟩=some (.int .i64 dn)∧w'.cell? ⟨w.heap.size+1,4,none⟩=some (.int .i64 n)∧w'.cell? ⟨b0,o0+dn*2,none⟩=some (.slice lx lp lc)∧w'.cell? ⟨b0,o0+dn*2+1,none⟩=some (.slice ly lq ld)∧w'.cell? ⟨w.heap.size+1,5,none⟩=some (.int .i64 at_)∧w'.cell? ⟨w.heap.size+1,6,none⟩=some (.int .i64 by_)) (fun _=>True) 14 (by kernel_rfl) (HA.out _ (Below.refl _ W).drew) trivial (fun hT=>?_)
  have S0:Hid (Below W.heap.size W W.drew):=(Below.refl _ W).drew;clear p0 x3 x4 x5 x6 m0 m1 y0 y1 y2 y3 y4 f0 f1 f2 f3 f4;refine tkn (i:=0) rfl (by kernel_rfl) (fun _ _ _ h=>h) (by rfl) (by intro w h; (try dsimp only at h); go_simp; first | done | with_reducible rfl) hT ?_
  clear hT; intro hT; try simp only[Act.put,List.setIfInBounds_toArray,List.set]
  refine tkn (i:=1) rfl (by kernel_rfl) (fun _ _ _ h=>h) (by rfl) (by intro w h; (try dsimp only at h); go_simp; first | done | with_reducible rfl) hT ?_
  clear hT; intro hT; try simp only[Act.put,List.setIfInBounds_toArray,List.set]
  refine tkn (i:=2) rfl (by kernel_rfl) (fun _ _ _ h=>h) (by rfl) (by intro w h; (try dsimp only at h); go_simp; first | done | with_reducible rfl) hT ?_
  clear hT; intro hT; try simp only[Act.put,List.setIfInBounds_toArray,List.set]
  refine tkn (i:=3) rfl (by kernel_rfl) (fun _ _ _ h=>h) (by rfl) (by intro w h; (try dsimp only at h); go_simp; first | done | with_reducible rfl) hT ?_
  clear hT; intro hT; try simp only[Act.put,List.setIfInBounds_toArray,List.set]
  refine tkn (i:=4) rfl (by kernel_rfl) (fun _ _ _ h=>h) (by rfl) (by intro w h; (try dsimp only at h); go_simp; first | done | with_reducible rfl) hT ?_
  clear hT; intro hT; try simp only[Act.put,List.setIfInBounds_toArray,List.set]
  refine tkn (i:=5) rfl (by kernel_rfl) (fun _ _ _ h=>h) (by rfl) (by intro w h; (try dsimp only at h); go_simp; first | done | with_reducible rfl) hT ?_
  clear hT; intro hT; try simp only[Act.put,List.setIfInBounds_toArray,List.set]
  refine tkn (i:=6) rfl (by kernel_rfl) (fun _ _ _ h=>h) (by rfl) (by intro w h; (try dsimp only at h); go_simp; first | done | with_reducible rfl) hT ?_
  clear hT; intro hT; try simp only[Act.put,List.setIfInBounds_toArray,List.set]
  refine tkn (i:=7) rfl (by kernel_rfl) (fun _ _ _ h=>h) (by rfl) (by intro w h; (try dsimp only at h); go_simp; first | done | with_reducible rfl) hT ?_
  clear hT; intro hT; try simp only[Act.put,List.setIfInBounds_toArray,List.set]
  refine tkn (i:=8) rfl (by kernel_rfl) (fun _ _ _ h=>h) (by rfl) (by intro w h; (try dsimp only at h); go_simp; first | done | with_reducible rfl) hT ?_
  clear hT; intro hT; try simp only[Act.put,List.setIfInBounds_toArray,List.set]
  generalize W.drew=V at S0 hT ⊢;refine Xe (i:=9) (j:=13) rfl rfl (by kernel_rfl) (fun K hK=>?_) (fun K hK=>?_)
  ·go_simp
   go_at_call 33
   refine (CL.out _ S0.out).mono ?_
   rintro _ x1 ⟨ra,rn,rc,rb,rm,rd2,rfl,hD,_,j1⟩;have S1:Hid (Below W.heap.size W x1∧Zc x1 ra rn rb rm D0):=⟨bel3 S0.out j1,hD⟩;refine hK.out _ _ ?hs13 ?rs13
   case hs13=>exact⟨HA.out _ S1.out.1,fun _=>trivial⟩
   clear hT hK K hD j1 S0; intro hT
   refine tkn (i:=10) rfl (by kernel_rfl) (fun _ _ _ h=>h) (by rfl) (by intro w h; (try dsimp only at h); go_simp; first | done | with_reducible rfl) hT ?_
   clear hT; intro hT; try simp only[Act.put,List.setIfInBounds_toArray,List.set]
   refine tkn (i:=11) rfl (by kernel_rfl) (fun _ _ _ h=>h) (by rfl) (by intro w h; (try dsimp only at h); go_simp; first | done | with_reducible rfl) hT ?_
   clear hT; intro hT; try simp only[Act.put,List.setIfInBounds_toArray,List.set]
   refine tkn (i:=12) rfl (by kernel_rfl) (fun _ _ _ h=>h) (by rfl) (by intro w h; (try dsimp only at h); go_simp; first | done | with_reducible rfl) hT ?_
   clear hT; intro hT; try simp only[Act.put,List.setIfInBounds_toArray,List.set]
   refine Z0 (i:=13) rfl (by kernel_rfl) (fun K hK=>?_)
   go_simp;obtain⟨pd,e2⟩:∃ pd,x1.heap.size=pd:=⟨_,rfl⟩;obtain⟨x2,f2⟩:∃ x2,x1.alloc (.cells #[.slice none 0 0,.slice none 0 0] 56)=x2:=⟨_,rfl⟩;have b2:Below x1.heap.size x1 x2:=by rw[<- f2]; exact (Below.refl _ x1).alloc (Nat.le_refl _) _
   have o2:Own x2 pd 56 [.slice none 0 0,.slice none 0 0]:=by rw[<- f2,<- e2]; exact Own.made x1 56 [.slice none 0 0,.slice none 0 0]
   have S2:Hid (Below W.heap.size W x2∧Zc x2 ra rn rb rm D0∧Own x2 pd 56 [.slice none 0 0,.slice none 0 0]∧W.heap.size<=pd):=⟨bel3 S1.out.1 b2,S1.out.2.below b2,o2,by rw[<- e2]; exact S1.out.1.size⟩
   rw[e2,f2];refine hK.out _ _ ?hs17 ?rs17
   case hs17=>exact⟨HA.out _ S2.out.1,fun _=>trivial⟩
   clear hT hK K e2 f2 b2 o2 S1; intro hT; try simp only[Act.put,List.setIfInBounds_toArray,List.set]
   have q0:=S2.out.2.2.1.cell (i:=0) rfl;have q1:=S2.out.2.2.1.cell (i:=1) rfl;have q2:=S2.out.2.2.1.free 0;have q3:=S2.out.2.2.1.free 1;refine Z0 (i:=14) rfl (by kernel_rfl) (fun K hK=>?_)
   go_simp;clear q0 q1 q2 q3;have T:=hid (Yj S2.out.1 S2.out.2.1 S2.out.2.2.1 S2.out.2.2.2 rc rd2);obtain⟨y,hy⟩:∃ y,(x2.setCell ⟨pd,0,none⟩ (.slice ra rn rc)).setCell ⟨pd,1,none⟩ (.slice rb rm rd2)=y:=⟨_,rfl⟩;rw[hy] at T ⊢;clear hy;refine hK.out _ _ ?hs18 ?rs18
   case hs18=>exact⟨HA.out _ T.out.2.2.2,fun _=>trivial⟩
   clear hT hK K S2; intro hT; try simp only[Act.put,List.setIfInBounds_toArray,List.set]
   refine tkn (i:=15) rfl (by kernel_rfl) (fun _ _ _ h=>h) (by rfl) (by intro w h; (try dsimp only at h); go_simp; first | done | with_reducible rfl) hT ?_
   clear hT; intro hT; try simp only[Act.put,List.setIfInBounds_toArray,List.set]
   refine Zw (by kernel_rfl) ?_ _
   go_wp2_with fail
   go_meet
   exact⟨pd,ra,rn,rc,rb,rm,rd2,rfl,rfl,T.out⟩
  ·go_simp
   obtain⟨pd,e2⟩:∃ pd,V.heap.size=pd:=⟨_,rfl⟩;obtain⟨x2,f2⟩:∃ x2,V.alloc (.cells #[.slice none 0 0,.slice none 0 0] 56)=x2:=⟨_,rfl⟩;have b2:Below V.heap.size V x2:=by rw[<- f2]; exact (Below.refl _ V).alloc (Nat.le_refl _) _
   have o2:Own x2 pd 56 [.slice none 0 0,.slice none 0 0]:=by rw[<- f2,<- e2]; exact Own.made V 56 [.slice none 0 0,.slice none 0 0]
   have S1:Hid (Below W.heap.size W x2∧Own x2 pd 56 [.slice none 0 0,.slice none 0 0]∧W.heap.size<=pd):=⟨bel3 S0.out b2,o2,by rw[<- e2]; exact S0.out.size⟩
   rw[e2,f2];refine hK.out _ _ ?hs19 ?rs19
   case hs19=>exact⟨HA.out _ S1.out.1,fun _=>trivial⟩
   clear hT hK K e2 f2 b2 o2 S0; intro hT; try simp only[Act.put,List.setIfInBounds_toArray,List.set]
   refine Z0 (i:=9) rfl (by kernel_rfl) (fun K hK=>?_)
   go_simp
   go_at_call 33
   refine (CL.out _ S1.out.1).mono ?_
   rintro _ x1 ⟨ra,rn,rc,rb,rm,rd2,rfl,hD,_,j1⟩;have S2:Hid (Below W.heap.size W x1∧Zc x1 ra rn rb rm D0∧Own x1 pd 56 [.slice none 0 0,.slice none 0 0]∧W.heap.size<=pd):=⟨bel3 S1.out.1 j1,hD,S1.out.2.1.below' j1,S1.out.2.2⟩;refine hK.out _ _ ?hs23 ?rs23
   case hs23=>exact⟨HA.out _ S2.out.1,fun _=>trivial⟩
   clear hT hK K hD j1 S1; intro hT
   refine tkn (i:=10) rfl (by kernel_rfl) (fun _ _ _ h=>h) (by rfl) (by intro w h; (try dsimp only at h); go_simp; first | done | with_reducible rfl) hT ?_
   clear hT; intro hT; try simp only[Act.put,List.setIfInBounds_toArray,List.set]
   refine tkn (i:=11) rfl (by kernel_rfl) (fun _ _ _ h=>h) (by rfl) (by intro w h; (try dsimp only at h); go_simp; first | done | with_reducible rfl) hT ?_
   clear hT; intro hT; try simp only[Act.put,List.setIfInBounds_toArray,List.set]
   refine tkn (i:=12) rfl (by kernel_rfl) (fun _ _ _ h=>h) (by rfl) (by intro w h; (try dsimp only at h); go_simp; first | done | with_reducible rfl) hT ?_
   clear hT; intro hT; try simp only[Act.put,List.setIfInBounds_toArray,List.set]
   have q0:=S2.out.2.2.1.cell (i:=0) rfl;have q1:=S2.out.2.2.1.cell (i:=1) rfl;have q2:=S2.out.2.2.1.free 0;have q3:=S2.out.2.2.1.free 1;refine Z0 (i:=14) rfl (by kernel_rfl) (fun K hK=>?_)
   go_simp;clear q0 q1 q2 q3;have T:=hid (Yj S2.out.1 S2.out.2.1 S2.out.2.2.1 S2.out.2.2.2 rc rd2);obtain⟨y,hy⟩:∃ y,(x1.setCell ⟨pd,0,none⟩ (.slice ra rn rc)).setCell ⟨pd,1,none⟩ (.slice rb rm rd2)=y:=⟨_,rfl⟩;rw[hy] at T ⊢;clear hy;refine hK.out _ _ ?hs24 ?rs24
   case hs24=>exact⟨HA.out _ T.out.2.2.2,fun _=>trivial⟩
   clear hT hK K S2; intro hT; try simp only[Act.put,List.setIfInBounds_toArray,List.set]
   refine tkn (i:=15) rfl (by kernel_rfl) (fun _ _ _ h=>h) (by rfl) (by intro w h; (try dsimp only at h); go_simp; first | done | with_reducible rfl) hT ?_
   clear hT; intro hT; try simp only[Act.put,List.setIfInBounds_toArray,List.set]
   refine Zw (by kernel_rfl) ?_ _
   go_wp2_with fail
   go_meet
   exact⟨pd,ra,rn,rc,rb,rm,rd2,rfl,rfl,T.out⟩
 case rest=>
  obtain⟨pd,ga,gn,gc,gb,gm,gd,rfl,rfl,_,hO,hpd,hG⟩:=hcut;have S3:=HP.out.1.to hG;have HS3:=hid S3;replace x0:=S3.ax.cell (i:=0) rfl;have S9:Hid (Below W.heap.size W wc.drew∧Own wc.drew pd 56 [.slice ga gn gc,.slice gb gm gd]∧W.heap.size<=pd):=⟨hG.drew,hO.below' (Below.refl _ _).drew,hpd⟩;clear S3 CL y0 y1 y2 y3 y4 f0 f1 f2 f3 f4 p0 m0 m1 x3 x4 x5 x6 hO hG hpd;go_upto_region 20 with fail
  go_cut [10] (fun s10 wx=>∃ ra rn rc rb rm rd2,s10=.int .i64 e'∧Zc wx ra rn rb rm D'∧Own wx pd 56 [.slice ra rn rc,.slice rb rm rd2]∧W.heap.size<=pd∧Below W.heap.size W wx)
  case first=>
   refine Zq (fun w'=>w'.cell? ⟨w.heap.size,0,none⟩=some (.slice (some ⟨b0,o0,none⟩) 3 c0)∧w'.cell? ⟨w.heap.size+1,3,none⟩=some (.int .i64 dn)∧w'.cell? ⟨w.heap.size+1,4,none⟩=some (.int .i64 n)∧w'.cell? ⟨b0,o0+dn*2,none⟩=some (.slice lx lp lc)∧w'.cell? ⟨b0,o0+dn*2+1,none⟩=some (.slice ly lq ld)∧w'.cell? ⟨w.heap.size+1,5,none⟩=some (.int .i64 at_)∧w'.cell? ⟨w.heap.size+1,6,none⟩=some (.int .i64 by_)) (fun _=>True) 17 (by kernel_rfl) (HA.out _ S9.out.1) trivial (fun hT=>?_)
   refine tkn (i:=0) rfl (by kernel_rfl) (fun _ _ _ h=>h) (by rfl) (by intro w h; (try dsimp only at h); go_simp; first | done | with_reducible rfl) hT ?_
   clear hT; intro hT; try simp only[Act.put,List.setIfInBounds_toArray,List.set]
   refine tkn (i:=1) rfl (by kernel_rfl) (fun _ _ _ h=>h) (by rfl) (by intro w h; (try dsimp only at h); go_simp; first | done | with_reducible rfl) hT ?_
   clear hT; intro hT; try simp only[Act.put,List.setIfInBounds_toArray,List.set]
   refine tkn (i:=2) rfl (by kernel_rfl) (fun _ _ _ h=>h) (by rfl) (by intro w h; (try dsimp only at h); go_simp; first | done | with_reducible rfl) hT ?_
   clear hT; intro hT; try simp only[Act.put,List.setIfInBounds_toArray,List.set]
   refine tkn (i:=3) rfl (by kernel_rfl) (fun _ _ _ h=>h) (by rfl) (by intro w h; (try dsimp only at h); go_simp; first | done | with_reducible rfl) hT ?_
   clear hT; intro hT; try simp only[Act.put,List.setIfInBounds_toArray,List.set]
   refine tkn (i:=4) rfl (by kernel_rfl) (fun _ _ _ h=>h) (by rfl) (by intro w h; (try dsimp only at h); go_simp; first | done | with_reducible rfl) hT ?_
   clear hT; intro hT; try simp only[Act.put,List.setIfInBounds_toArray,List.set]
   refine tkn (i:=5) rfl (by kernel_rfl) (fun _ _ _ h=>h) (by rfl) (by intro w h; (try dsimp only at h); go_simp; first | done | with_reducible rfl) hT ?_
   clear hT; intro hT; try simp only[Act.put,List.setIfInBounds_toArray,List.set]
   refine tkn (i:=6) rfl (by kernel_rfl) (fun _ _ _ h=>h) (by rfl) (by intro w h; (try dsimp only at h); go_simp; first | done | with_reducible rfl) hT ?_
   clear hT; intro hT; try simp only[Act.put,List.setIfInBounds_toArray,List.set]
   refine tkn (i:=7) rfl (by kernel_rfl) (fun _ _ _ h=>h) (by rfl) (by intro w h; (try dsimp only at h); go_simp; first | done | with_reducible rfl) hT ?_
   clear hT; intro hT; try simp only[Act.put,List.setIfInBounds_toArray,List.set]
   refine tkn (i:=8) rfl (by kernel_rfl) (fun _ _ _ h=>h) (by rfl) (by intro w h; (try dsimp only at h); go_simp; first | done | with_reducible rfl) hT ?_
   clear hT; intro hT; try simp only[Act.put,List.setIfInBounds_toArray,List.set]
   refine tkn (i:=9) rfl (by kernel_rfl) (fun _ _ _ h=>h) (by rfl) (by intro w h; (try dsimp only at h); go_simp; first | done | with_reducible rfl) hT ?_
   clear hT; intro hT; try simp only[Act.put,List.setIfInBounds_toArray,List.set]
   refine tkn (i:=10) rfl (by kernel_rfl) (fun _ _ _ h=>h) (by rfl) (by intro w h; (try dsimp only at h); go_simp; first | done | with_reducible rfl) hT ?_
   clear hT; intro hT; try simp only[Act.put,List.setIfInBounds_toArray,List.set]
   refine tkn (i:=11) rfl (by kernel_rfl) (fun _ _ _ h=>h) (by rfl) (by intro w h; (try dsimp only at h); go_simp; first | done | with_reducible rfl) hT ?_
   clear hT; intro hT; try simp only[Act.put,List.setIfInBounds_toArray,List.set]
   refine tkn (i:=12) rfl (by kernel_rfl) (fun _ _ _ h=>h) (by rfl) (by intro w h; (try dsimp only at h); go_simp; first | done | with_reducible rfl) hT ?_
   clear hT; intro hT; try simp only[Act.put,List.setIfInBounds_toArray,List.set]
   generalize wc.drew=V at S9 hT ⊢;refine Z0 (i:=13) rfl (by kernel_rfl) (fun K hK=>?_)
   go_simp
   go_at_call 34
   refine (CM.out _ S9.out.1).mono ?_
   rintro _ x1 ⟨ra,rn,rc,rb,rm,rd2,rfl,hD,_,j1⟩;have S2:Hid (Below W.heap.size W x1∧Zc x1 ra rn rb rm D'∧Own x1 pd 56 [.slice ga gn gc,.slice gb gm gd]∧W.heap.size<=pd):=⟨bel3 S9.out.1 j1,hD,S9.out.2.1.below' j1,S9.out.2.2⟩;refine hK.out _ _ ?hs25 ?rs25
   case hs25=>exact⟨HA.out _ S2.out.1,fun _=>trivial⟩
   clear hT hK K hD j1 S9; intro hT
   refine tkn (i:=14) rfl (by kernel_rfl) (fun _ _ _ h=>h) (by rfl) (by intro w h; (try dsimp only at h); go_simp; first | done | with_reducible rfl) hT ?_
   clear hT; intro hT; try simp only[Act.put,List.setIfInBounds_toArray,List.set]
   refine tkn (i:=15) rfl (by kernel_rfl) (fun _ _ _ h=>h) (by rfl) (by intro w h; (try dsimp only at h); go_simp; first | done | with_reducible rfl) hT ?_
   clear hT; intro hT; try simp only[Act.put,List.setIfInBounds_toArray,List.set]
   refine tkn (i:=16) rfl (by kernel_rfl) (fun _ _ _ h=>h) (by rfl) (by intro w h; (try dsimp only at h); go_simp; first | done | with_reducible rfl) hT ?_
   clear hT; intro hT; try simp only[Act.put,List.setIfInBounds_toArray,List.set]
   have q0:=S2.out.2.2.1.cell (i:=0) rfl;have q1:=S2.out.2.2.1.cell (i:=1) rfl;have q2:=S2.out.2.2.1.free 0;have q3:=S2.out.2.2.1.free 1;refine Z0 (i:=17) rfl (by kernel_rfl) (fun K hK=>?_)
   go_simp;clear q0 q1 q2 q3;have T:=hid (Yj S2.out.1 S2.out.2.1 S2.out.2.2.1 S2.out.2.2.2 rc rd2);obtain⟨y,hy⟩:∃ y,(x1.setCell ⟨pd,0,none⟩ (.slice ra rn rc)).setCell ⟨pd,1,none⟩ (.slice rb rm rd2)=y:=⟨_,rfl⟩;rw[hy] at T ⊢;clear hy;refine hK.out _ _ ?hs26 ?rs26
   case hs26=>exact⟨HA.out _ T.out.2.2.2,fun _=>trivial⟩
   clear hT hK K S2; intro hT; try simp only[Act.put,List.setIfInBounds_toArray,List.set]
   refine tkn (i:=18) rfl (by kernel_rfl) (fun _ _ _ h=>h) (by rfl) (by intro w h; (try dsimp only at h); go_simp; first | done | with_reducible rfl) hT ?_
   clear hT; intro hT; try simp only[Act.put,List.setIfInBounds_toArray,List.set]
   refine Zw (by kernel_rfl) ?_ _
   go_wp2_with fail
   go_meet
   exact⟨ra,rn,rc,rb,rm,rd2,rfl,T.out⟩
  case rest=>
   obtain⟨ra,rn,rc,rb,rm,rd2,rfl,hD,hO,hpd,hG⟩:=hcut;have S3:=HP.out.1.to hG;have y0:=S3.out.cell (i:=0) rfl;have f0:=S3.out.free 0;have x3:=S3.ax.cell (i:=3) rfl;have hlt:=HP.out.1.lt;clear HA CM HS3 x0
   by_cases he:e'=0
   ·have hm1:=HP.out.2.2.1 he
    rw[he];go_upto_region 23 with fail
    have R1:=S3.set 0 (.int .i64 0) (nxE 0) (.int .i64 0) rfl (.inl rfl) rfl (nxE_ok _ _) (nxE_new _ _);have D1:=hid (hD.keep0 y0 (.int .i64 0));have O1:=hid ((hO.other (p:=⟨w.heap.size+1+1+1+1,0,none⟩) (by show pd≠w.heap.size+1+1+1+1; have:=HP.out.1.lt; omega) (.int .i64 0)))
    have lt3:=S3.lt;have ltp:=hO.lt;obtain⟨V,hV⟩:∃ V,V=wc.setCell ⟨w.heap.size+1+1+1+1,0,none⟩ (.int .i64 0):=⟨_,rfl⟩;rw[<- hV] at R1 D1 O1 ⊢;clear hV S3 y0 f0 hD hO;obtain⟨b1,o1,c1,hd1,k1,k2,k3⟩:=R1.se.ex;have p1:=k1.cell (i:=0) rfl;have p2:=k1.free 0;have CC:=hid (XR (some ⟨b1,o1,none⟩) 3 c1 h.A V (.inr ⟨b1,o1,hd1,rfl,k2⟩) (ZN h.A HP.out.2.1));have HR1:=hid R1;clear k1 k2 k3 R1;go_wp2_with fail
    refine CC.out.mono ?_
    rintro _ w4 ⟨a4,c4,rfl,h4,g4⟩
    rcases h4 with ⟨h40,_⟩ | ⟨b4,hd4,rfl,hb4,F4⟩
    ·omega
    have S4:=HR1.out.to g4;have lt4:=HR1.out.lt;obtain⟨b5,o5,c5,hd5,k1,k2,k3⟩:=S4.se.ex;have p3:=k1.cell (i:=0) rfl;have p4:=k1.free 0;have hne:b4≠w.heap.size:=by omega
    have R5:=S4.hall 0 (.slice (some ⟨b4,0,none⟩) 3 c4) h (S4.se.put F4.arr HP.out.2.1 hne c4);have F5:=F4.box (p:=w.heap.size) (fun e=>hne e.symm) p3 (.slice (some ⟨b4,0,none⟩) 3 c4)
    have D5:=(D1.out.below g4).slices p3 (.slice (some ⟨b4,0,none⟩) 3 c4);have O5:=(O1.out.below' g4).other (p:=⟨w.heap.size,0,none⟩) (by show pd≠w.heap.size; have:=HP.out.1.lt; omega) (.slice (some ⟨b4,0,none⟩) 3 c4)
    clear CC p1 p2 D1 O1 S4 k2 k3 HR1 g4;have z0:=(k1.set (i:=0) (by simp) (.slice (some ⟨b4,0,none⟩) 3 c4)).cell (i:=0) rfl
    clear k1;go_upto_region 24 with fail
    obtain⟨W5,hW5⟩:∃ W5,W5=w4.setCell ⟨w.heap.size,0,none⟩ (.slice (some ⟨b4,0,none⟩) 3 c4):=⟨_,rfl⟩;rw[<- hW5] at R5 F5 D5 O5 z0 ⊢;clear hW5 p3 p4 F4;have q0:=O5.cell (i:=0) rfl;have q1:=O5.cell (i:=1) rfl;have x3:=R5.ax.cell (i:=3) rfl;obtain⟨⟨v0,v1,v2,v3⟩,_,_⟩:=F5.store0 dn HP.out.2.2.2 ⟨ra,rn,rc,rb,rm,rd2⟩ D' D5;have HR0:=hid (R5.dev z0 F5 (by omega) dn HP.out.2.2.2 ⟨ra,rn,rc,rb,rm,rd2⟩ D' D5 hm1)
    clear R5 F5 D5 O5 hm1;go_upto_region 40 with fail
    have R:=HR0.out;obtain⟨V,hV⟩:∃ V,V=(W5.setCell ⟨b4,dn*2,none⟩ (.slice ra rn rc)).setCell ⟨b4,dn*2+1,none⟩ (.slice rb rm rd2):=⟨_,rfl⟩;rw[<- hV] at R ⊢;obtain⟨b1,o1,c1,hA1,a0,a1,a2,e0,e1,e2,e3,e4,r0,r1,r2,r3,r4,r5,t0,t1,t2,t3,t4,u0,u1,u2,u3,u4⟩:=R.cells;have HR:=hid (And.intro R hA1);clear R hA1 hV HR0 z0 q0 q1 x3 v0 v1 v2 v3;go_region
    all_goals go_wp2
    all_goals
     obtain⟨y0,y1,y2,y3,y4,y5,y6,y7,z3⟩:=HR.out.1.done (c:=c1) HR.out.2 _ rfl _ rfl;refine bodyPost_ret (v:=.tuple #[.agg #[.slice (some ⟨b1,o1,none⟩) 3 c1,.int .i64 h.nx,.int .i64 h.rd],nxA (nxE 0)]) (by simp[results,Tryz.results12,go_sem,y0,y1,y2,y3,y4,y5,y6,y7,nxA]) rfl ?_
     rw[<- HRA.out,if_pos he];exact z3.drew
   ·have hb:(e'==0)=false:=beq_eq_false_iff_ne.2 he
    have hb2:decide (e'=0)=false:=decide_eq_false he;go_upto_region 40 with fail
    have R:=S3.set 0 (.int .i64 e') (nxE e') (.int .i64 0) rfl (.inl rfl) rfl (nxE_ok _ _) (nxE_new _ _);clear S3 hD hO;obtain⟨V,hV⟩:∃ V,V=wc.setCell ⟨w.heap.size+1+1+1+1,0,none⟩ (.int .i64 e'):=⟨_,rfl⟩;rw[<- hV] at R ⊢;obtain⟨b1,o1,c1,hA1,a0,a1,a2,e0,e1,e2,e3,e4,r0,r1,r2,r3,r4,r5,t0,t1,t2,t3,t4,u0,u1,u2,u3,u4⟩:=R.cells;have HR:=hid (And.intro R hA1);clear R hA1 hV y0 f0 hb hb2;go_region
    all_goals go_wp2
    all_goals
     obtain⟨y0,y1,y2,y3,y4,y5,y6,y7,z3⟩:=HR.out.1.done (c:=c1) HR.out.2 _ rfl _ rfl;refine bodyPost_ret (v:=.tuple #[.agg #[.slice (some ⟨b1,o1,none⟩) 3 c1,.int .i64 h.nx,.int .i64 h.rd],nxA (nxE e')]) (by simp[results,Tryz.results12,go_sem,y0,y1,y2,y3,y4,y5,y6,y7,nxA]) rfl ?_
     rw[<- HRA.out,if_neg he];exact z3.drew
theorem Z5S (b o c:Nat) (hd:Nat->Hd) (q:Ax) (hA:Arr w b o 3 hd h.A) (hm:Z2 h.A=true) (hq:AxOk w q):
  Calls Tryz.prog 12 #[.agg #[.slice (some ⟨b,o,none⟩) 3 c,.int .i64 h.nx,.int .i64 h.rd],axA q] w (Wl w (actS h q.x)):=by
 obtain⟨⟨k,F,s,d,n,at_,by_⟩,⟨fa,fn,fc⟩⟩:=q;unfold actS axA;dsimp only
 by_cases e1:k=1
 ·subst e1; rw[if_pos rfl]; exact Z7H h w b o c hd F s d n at_ by_ fa fn fc hA hm hq.1.2
 rw[if_neg e1]
 by_cases e2:k=2
 ·subst e2; rw[if_pos rfl]; exact Z7G h w b o c hd F s d n at_ by_ fa fn fc hA hm
 rw[if_neg e2]
 by_cases e3:k=3
 ·subst e3; rw[if_pos rfl]; exact Z6f h w b o c hd F s d n at_ by_ fa fn fc hA hm
 rw[if_neg e3];have out:¬ (0<=d∧d<=2)->Xs h ⟨k,F,s,d,n,at_,by_⟩=(h,anE 2):=fun e=>by unfold Xs; rw[if_neg e]
 by_cases e4:k=4
 ·subst e4; rw[if_pos (.inl rfl)]
  by_cases hd3:0<=d∧d<=2
  ·exact Z6e h w b o c hd F s d n at_ by_ fa fn fc hA hm d.toNat (by omega) (by omega)
  ·rw[out hd3]; exact Z0T h w b o c hd F s d n at_ by_ fa fn fc hA hm hd3
 by_cases e5:k=5
 ·subst e5; rw[if_pos (.inr rfl)]
  by_cases hd3:0<=d∧d<=2
  ·exact Z6d h w b o c hd F s d n at_ by_ fa fn fc hA hm d.toNat (by omega) (by omega)
  ·rw[out hd3]; exact Z0S h w b o c hd F s d n at_ by_ fa fn fc hA hm hd3
 rw[if_neg (by rintro (e | e); exact e4 e; exact e5 e)]
 by_cases e6:k=6
 ·subst e6; rw[if_pos rfl]; exact Z7F h w b o c hd F s d n at_ by_ fa fn fc hA hm
 rw[if_neg e6]
 by_cases e7:k=7
 ·subst e7; rw[if_pos rfl]; exact Z4j h w b o c hd F s d n at_ by_ fa fn fc hA hm
 rw[if_neg e7]
 by_cases e8:k=8
 ·subst e8; rw[if_pos rfl]; exact Z34 h w b o c hd F s d n at_ by_ fa fn fc hA hm
 rw[if_neg e8];exact Z4k h w b o c hd F s d n at_ by_ fa fn fc hA hm k e1 e2 e3 e4 e5 e6 e7 e8
end
end Go.Proofs.YtdnacpbgodooaaaGreatDoor
namespace Go.Proofs.YtdnacpbgodooaaaGreatDoor
open Go.RowKit Go.Lib
theorem Z7d:True:=trivial
theorem via {G F:World->Nat->Nat->Nat->Nat->Nat->Nx->Prop} {R:Prop} (main:(∀ x p q b o c y,F x p q b o c y->G x p q b o c y)->R) (key:∀ x p q b o c y,F x p q b o c y->G x p q b o c y):R:=main key
structure ScR (wr:World) (r:Ha × An) (b o:Nat) (y:Nx) (x:World):Prop where
 eq:y.r=r.2
 may:Z2 r.1.A=true
 arr:∃ hd,Arr x b o 3 hd r.1.A
 ok:NxOk x y
 new:YO wr.heap.size y
 below:Below wr.heap.size wr x
section
variable {wr x V:World} {r:Ha × An} {b o p q:Nat} {y:Nx}
theorem ScR.to (H:ScR wr r b o y x) (g:Below x.heap.size x V):ScR wr r b o y V:=by
 obtain⟨hd,hA⟩:=H.arr;exact⟨H.eq,H.may,⟨hd,hA.below g⟩,H.ok.below g,H.new,bel3 H.below g⟩
theorem ScR.st1 (H:ScR wr r b o y x) (hp:Own x p 49 zero3) (hq:Own x q 34 zero5) (hne:p≠q) (hf:VP (some p) y) (hw:wr.heap.size<=p) (c:Nat) (V:World)
  (hV:((x.setCell ⟨p,0,none⟩ (.slice (some ⟨b,o,none⟩) 3 c)).setCell ⟨p,1,none⟩ (.int .i64 r.1.nx)).setCell ⟨p,2,none⟩ (.int .i64 r.1.rd)=V):
  ScR wr r b o y V∧Own V p 49 [.slice (some ⟨b,o,none⟩) 3 c,.int .i64 r.1.nx,.int .i64 r.1.rd]∧Own V q 34 zero5:=by
 obtain⟨hd,hA⟩:=H.arr;have c1:=(((Chg.refl (fun j=>j=p) x).set (p:=p) rfl 0 (.slice (some ⟨b,o,none⟩) 3 c)).set (p:=p) rfl 1 (.int .i64 r.1.nx)).set (p:=p) rfl 2 (.int .i64 r.1.rd)
 have k1:=TB hp (.slice (some ⟨b,o,none⟩) 3 c) (.int .i64 r.1.nx) (.int .i64 r.1.rd);have o1:=Z1P hp (.slice (some ⟨b,o,none⟩) 3 c) (.int .i64 r.1.nx) (.int .i64 r.1.rd);rw[hV] at c1 k1 o1;refine⟨⟨H.eq,H.may,⟨hd,hA.keepz H.may k1⟩,H.ok.grown hf ⟨c1.os,c1.tape,c1.output,c1.size,fun k hk hn=>c1.block k hk (fun e=>hn (by rw[e]))⟩,H.new,?_⟩,o1,hq.of_block (c1.block _ hq.lt (fun e=>hne e.symm))⟩
 rw[<- hV];exact ((H.below.setCell (p:=⟨p,0,none⟩) hw _).setCell (p:=⟨p,1,none⟩) hw _).setCell (p:=⟨p,2,none⟩) hw _
theorem ScR.st2 (H:ScR wr r b o y x) {L:List Value} (hp:Own x p 49 L) (hq:Own x q 34 zero5) (hne:p≠q) (hf:VP (some q) y) (hw:wr.heap.size<=q) (V:World)
  (hV:((((x.setCell ⟨q,0,none⟩ (.int .i64 y.r.code)).setCell ⟨q,1,none⟩ (.string (str y.r.data))).setCell ⟨q,2,none⟩ (.slice y.f.a y.f.n y.f.c)).setCell ⟨q,3,none⟩ (.int .i64 y.r.count)).setCell ⟨q,4,none⟩ (.slice y.g.a y.g.n y.g.c)=V):
  ScR wr r b o y V∧Own V p 49 L∧Own V q 34 (nxC y):=by
 obtain⟨hd,hA⟩:=H.arr;have k1:=XF hq (.int .i64 y.r.code) (.string (str y.r.data)) (.slice y.f.a y.f.n y.f.c) (.int .i64 y.r.count) (.slice y.g.a y.g.n y.g.c);have o1:=(ZJ hq (.int .i64 y.r.code) (.string (str y.r.data)) (.slice y.f.a y.f.n y.f.c) (.int .i64 y.r.count) (.slice y.g.a y.g.n y.g.c)).2;have c1:=(((((Chg.refl (fun j=>j=q) x).set (p:=q) rfl 0 (.int .i64 y.r.code)).set (p:=q) rfl 1 (.string (str y.r.data))).set (p:=q) rfl 2 (.slice y.f.a y.f.n y.f.c)).set (p:=q) rfl 3 (.int .i64 y.r.count)).set (p:=q) rfl 4 (.slice y.g.a y.g.n y.g.c)
 rw[hV] at c1 k1 o1;refine⟨⟨H.eq,H.may,⟨hd,hA.keepz H.may k1⟩,H.ok.grown hf ⟨c1.os,c1.tape,c1.output,c1.size,fun k hk hn=>c1.block k hk (fun e=>hn (by rw[e]))⟩,H.new,?_⟩,hp.of_block (c1.block _ hp.lt hne),o1⟩
 rw[<- hV];exact ((((H.below.setCell (p:=⟨q,0,none⟩) hw _).setCell (p:=⟨q,1,none⟩) hw _).setCell (p:=⟨q,2,none⟩) hw _).setCell (p:=⟨q,3,none⟩) hw _).setCell (p:=⟨q,4,none⟩) hw _
def Siz (w:World) (p:Nat):Prop:=∀ i,3<=i->w.cell? ⟨p,i,none⟩=none
theorem Z7A (w:World) (t:TypeId) (u v z:Value):Siz (w.alloc (.cells #[u,v,z] t)) w.heap.size:=by
 intro i hi;simp only[World.cell?,heap_alloc_new w]
 simp
 omega
theorem Siz.of_block {w w':World} {p:Nat} (h:Siz w p) (e:w'.heap[p]?=w.heap[p]?):Siz w' p:=fun i hi=>(World.cell?_of_block (a:=⟨p,i,none⟩) e).trans (h i hi)
theorem Siz.below {w w':World} {p:Nat} (h:Siz w p) (g:Below w.heap.size w w') (hp:p<w.heap.size):Siz w' p:=h.of_block (g.block p hp)
theorem Siz.set {w:World} {p:Nat} (h:Siz w p) (j:Nat) (hj:j<3) (v:Value):Siz (w.setCell ⟨p,j,none⟩ v) p:=fun i hi=>by
 rw[World.cell?_setCell_other _ _ _ _ (fun e=>by have:=congrArg Addr.off e; simp at this; omega)]
 exact h i hi
theorem Siz.grown {w w':World} {p:Nat} {row:Option Nat} {o:Obj} (h:Siz w p) (hp:p<w.heap.size) (g:(w.alloc o).grownBy w' row) (hn:row≠some p):Siz w' p:=
 (h.below ((Below.refl _ w).alloc (Nat.le_refl _) o) hp).of_block (g.block p (by have:=((Below.refl _ w).alloc (Nat.le_refl _) o).size; omega) (fun e=>hn e.symm))
theorem Z8s {w:World} {t:TypeId} {v:Value} {m n:Int} {hd:Nat->Hd} {A:Ar} (H:Arr w b o 3 hd A) (O:Own w p t [v,.int .i64 m,.int .i64 n]) (z:Siz w p):b≠p:=by
 rintro rfl;have h0:=H.c0 0 (by omega)
 have h1:=H.c1 0 (by omega)
 rw[Nat.zero_mul,Nat.add_zero] at h0 h1;have g1:=O.cell (i:=1) rfl;have g2:=O.cell (i:=2) rfl
 match o,h0,h1 with
 | 0,_,h1=>rw[g1] at h1; cases h1
 | 1,h0,_=>rw[g1] at h0; cases h0
 | 2,h0,_=>rw[g2] at h0; cases h0
 | o+3,h0,_=>rw[z (o+3) (by omega)] at h0; cases h0
theorem Z6J {wr w:World} {h:Ha} {r:Ha × An} {b o c:Nat} {y:Nx} {p0:Nat} (S:Rf w p0 h) (H:ScR wr r b o y w) (z:Siz w p0) (hp:p0<wr.heap.size) (V:World)
  (hV:V=((w.setCell ⟨p0,0,none⟩ (.slice (some ⟨b,o,none⟩) 3 c)).setCell ⟨p0,1,none⟩ (.int .i64 r.1.nx)).setCell ⟨p0,2,none⟩ (.int .i64 r.1.rd)):
  Rf V p0 r.1∧NxOk V y∧Chg (fun j=>j=p0) wr V:=by
 obtain⟨hd,hA⟩:=H.arr;obtain⟨b1,o1,c1,hd1,j1,_,_⟩:=S.ex;have hb:b≠p0:=Z8s hA j1 z;have cc:=(((Chg.refl (fun j=>j=p0) w).set (p:=p0) rfl 0 (.slice (some ⟨b,o,none⟩) 3 c)).set (p:=p0) rfl 1 (.int .i64 r.1.nx)).set (p:=p0) rfl 2 (.int .i64 r.1.rd)
 rw[hV];exact⟨((S.put hA H.may hb c).nx r.1.nx).rd r.1.rd,H.ok.grown (row:=some p0) (H.new.off (fun g e=>by cases e; exact hp)) ⟨cc.os,cc.tape,cc.output,cc.size,fun k hk hn=>cc.block k hk (fun e=>hn (by rw[e]))⟩,(chg_below (fun j=>j=p0) H.below).step cc⟩
end
theorem Z7C (n:Int) (x:Option Addr) (m c:Nat) (L:List Ax) (w:World) (H:WD w x m L):
  Calls Tryz.prog 5 #[.int .i64 n,.slice x m c] w (Z0s w (scrS n (acs L))):=by
 obtain⟨W,hW⟩:∃ W,W=w.alloc (.cells #[.slice none 0 0] 26):=⟨_,rfl⟩;have hB:Below w.heap.size w W:=by rw[hW]; go_grown
 have rb:Own W w.heap.size 26 [.slice none 0 0]:=by rw[hW]; exact Own.made w 26 [.slice none 0 0]
 have CN:=hid (Z8v n W);have HM:=hid (Z0j n);have hm:=H.sn;unfold scrS;rw[VO,<- hm];have HH:=hid (And.intro H (And.intro hB (And.intro rb hm)));generalize arNew n=R at CN HM;clear H hB hm;have r0:=rb.cell (i:=0) rfl;have rf:=rb.free 0;clear rb
 by_cases e0:R.2=0
 ·rw[if_pos e0]
  have e1:(R.2 != 0)=false:=bne_eq_false_iff_eq.2 e0;have e2:(R.2==0)=true:=beq_iff_eq.2 e0;have e3:decide (R.2=0)=true:=decide_eq_true e0;have HE:=hid e0;clear e0
  by_cases hl:200<m
  ·rw[if_pos hl]
   have hl':(200:Int)<m:=by omega
   go_enter Tryz.func5,Tryz.ntmps5
   go_upto_region 1 with fail
   rw[<- hW];clear hW;go_wp2_with fail
   refine CN.out.mono ?_
   rintro _ v1 ⟨⟨a,n1,c1,rfl,_⟩,g1⟩;have G1:=hid (bel3 HH.out.2.1 (bel3 g1 ((Below.refl _ v1).alloc (Nat.le_refl _) (.cells #[.slice a n1 c1] 26))));have q0:=(HH.out.2.2.1.below' (bel3 g1 ((Below.refl _ v1).alloc (Nat.le_refl _) (.cells #[.slice a n1 c1] 26)))).cell (i:=0) rfl;have qf:=(HH.out.2.2.1.below' (bel3 g1 ((Below.refl _ v1).alloc (Nat.le_refl _) (.cells #[.slice a n1 c1] 26)))).free 0;clear g1 r0 rf CN;go_upto_region 2 with fail
   generalize v1.alloc (.cells #[.slice a n1 c1] 26)=V at G1 q0 qf ⊢;have y0:=World.cell?_setCell_same V ⟨w.heap.size,0,none⟩ (.slice none 0 0) q0
   have K:=hid (Wr (x:=1) (G1.out.setCell (p:=⟨w.heap.size,0,none⟩) (Nat.le_refl _) (.slice none 0 0)));go_wp2
   refine bodyPost_ret (v:=.tuple #[.slice none 0 0,.agg #[.slice none 0 0],.int .i64 1]) (by simp[results,Tryz.results5,go_sem,y0]) rfl ?_
   exact K.out
  ·rw[if_neg hl]
   have hl':¬ (200:Int)<m:=by omega
   obtain⟨ra,hra⟩:∃ ra:List An × Ar × Int,((runS ⟨R.1,0,0⟩ (acs L)).2,(runS ⟨R.1,0,0⟩ (acs L)).1.A,(0:Int))=ra:=⟨_,rfl⟩;rw[hra];have HRA:=hid hra;clear hra;go_enter Tryz.func5,Tryz.ntmps5
   go_upto_region 1 with fail
   rw[<- hW];clear hW;go_wp2_with fail
   refine CN.out.mono ?_
   rintro _ v1 ⟨⟨a,n1,c1,rfl,hX⟩,g1⟩;have ha:=XX (p:=w.heap.size) HH.out.2.2.1.lt hX HM.out HE.out;obtain⟨b,o,hd,rfl,rfl,hA,_,hm⟩:=ha;have hbW:W.heap.size<=b:=by
    rcases hX with ⟨h,_⟩ | ⟨b',hd',e,h,_⟩
    ·omega
    ·cases e; exact h
   clear hX r0 rf CN;go_upto_region 2 with fail
   obtain⟨V,hV⟩:∃ V,V=v1.alloc (.cells #[.slice (some ⟨b,o,none⟩) 3 c1] 26):=⟨_,rfl⟩;have bV:Below v1.heap.size v1 V:=by rw[hV]; exact (Below.refl _ v1).alloc (Nat.le_refl _) _
   have d0:V.cell? ⟨v1.heap.size,0,none⟩=some (.slice (some ⟨b,o,none⟩) 3 c1):=by rw[hV]; simp[go_sem]
   rw[<- hV];clear hV;go_upto_region 7 with fail
   obtain⟨X,hX⟩:∃ X,X=V.alloc (.cells #[.slice (some ⟨b,o,none⟩) 3 c1,.int .i64 0,.int .i64 0] 49):=⟨_,rfl⟩;have bX:Below V.heap.size V X:=by rw[hX]; exact (Below.refl _ V).alloc (Nat.le_refl _) _
   have oX:Own X V.heap.size 49 [.slice (some ⟨b,o,none⟩) 3 c1,.int .i64 0,.int .i64 0]:=by rw[hX]; exact Own.made V 49 [.slice (some ⟨b,o,none⟩) 3 c1,.int .i64 0,.int .i64 0]
   have sX:Siz X V.heap.size:=by rw[hX]; exact Z7A V _ _ _ _
   rw[<- hX];clear hX;have GX:=bel3 g1 (bel3 bV bX);have J0:RunT 49 w V.heap.size (acs L) ⟨R.1,0,0⟩ ⟨R.1,0,0⟩ 0 (.slice none 0 0) X:=by
    refine⟨⟨[],ansI_nil _ _,rfl⟩,rfl,⟨⟨b,o,c1,hd,oX,(hA.below bV).below bX,?_⟩,hm⟩,HH.out.2.2.1.below' GX,⟨?_,oX.lt⟩,bel3 HH.out.2.1 GX⟩
    ·have:=hA.lt
     have:=bV.size
     omega
    ·have:=HH.out.2.2.1.lt
     have:=g1.size
     have:=bV.size
     omega
   have S0:=hid (And.intro J0 sX);clear J0 GX bX bV oX sX g1 hA d0 hbW hm;generalize V.heap.size=p0 at S0 ⊢;go_wp2_with fail
   go_loopw [10,11] (fun v i wr=>∃ (k:Nat) (h:Ha),k<=m∧i=.int .i64 k∧Hid (RunT 49 w p0 (acs L) ⟨R.1,0,0⟩ h k v wr∧Siz wr p0)) (fun _ i _=>m-(intOf i).toNat)
   case atStart=>exact⟨0,_,Nat.zero_le _,rfl,S0.out⟩
   case round=>
    obtain⟨k,h,hk,rfl,HI⟩:=hrel;clear S0
    by_cases hlt:k<m
    ·have hlt':(k:Int)<m:=by omega
     obtain⟨q,b1,o1,hq,rfl,hb1,hok,x0,x1,x2,x3,x4,x5,x6⟩:=(HH.out.1.below HI.out.1.below).one k hlt;have hx:(acs L)[k]?=some q.x:=by rw[acs,List.getElem?_map,hq]; rfl
     obtain⟨⟨qk,qF,qs,qd,qn,qa,qb⟩,⟨fa,fn,fc⟩⟩:=q;dsimp only at x0 x1 x2 x3 x4 x5 x6 hx;obtain⟨b2,o2,c2,hd2,p1,p2,p3⟩:=HI.out.1.se.ex;have d0:=p1.cell (i:=0) rfl;have d1:=p1.cell (i:=1) rfl;have d2:=p1.cell (i:=2) rfl;have HA:=hid (fun (wx:World) (g:Below wr.heap.size wr wx)=>And.intro (cell_at g d0) (And.intro (cell_at g d1) (And.intro (cell_at g d2) (And.intro (cell_at g x0) (And.intro (cell_at g x1) (And.intro (cell_at g x2) (And.intro (cell_at g x3) (And.intro (cell_at g x4) (And.intro (cell_at g x5) (cell_at g x6))))))))))
     have CA:=hid (fun (wx:World) (g:Below wr.heap.size wr wx)=>Z5S h wx b2 o2 c2 hd2 ⟨⟨qk,qF,qs,qd,qn,qa,qb⟩,⟨fa,fn,fc⟩⟩ (p2.below g) HI.out.1.se.may (hok.below g))
     obtain⟨r,hr⟩:∃ r,r=actS h ⟨qk,qF,qs,qd,qn,qa,qb⟩:=⟨_,rfl⟩;unfold axA at CA;dsimp only at CA;rw[<- hr] at CA;have HN:=hid (And.intro hx hr);clear hq hb1 hok hx hr p1 p2 p3;go_upto_region 11 with fail
     go_cut [12,13] (fun s12 s13 wx=>∃ p q b o c y,s12=.pointer (some ⟨p,0,none⟩)∧s13=.pointer (some ⟨q,0,none⟩)∧ScR wr r b o y wx∧(Own wx p 49 [.slice (some ⟨b,o,none⟩) 3 c,.int .i64 r.1.nx,.int .i64 r.1.rd]∧Own wx q 34 (nxC y))∧wr.heap.size<=p∧wr.heap.size<=q)
     case first=>
      refine Zq (fun w'=>w'.cell? ⟨p0,0,none⟩=some (.slice (some ⟨b2,o2,none⟩) 3 c2)∧w'.cell? ⟨p0,1,none⟩=some (.int .i64 h.nx)∧w'.cell? ⟨p0,2,none⟩=some (.int .i64 h.rd)∧w'.cell? ⟨b1,o1+k*7,none⟩=some (.int .i64 qk)∧w'.cell? ⟨b1,o1+k*7+1,none⟩=some (.slice fa fn fc)∧w'.cell? ⟨b1,o1+k*7+2,none⟩=some (.string qs)∧w'.cell? ⟨b1,o1+k*7+3,none⟩=some (.int .i64 qd)∧w'.cell? ⟨b1,o1+k*7+4,none⟩=some (.int .i64 qn)∧w'.cell? ⟨b1,o1+k*7+5,none⟩=some (.int .i64 qa)∧w'.cell? ⟨b1,o1+k*7+6,none⟩=some (.int .i64 qb)) (fun _=>True) 12 (by kernel_rfl) (HA.out _ (Below.refl _ wr).drew) trivial (fun hT=>?_)
      have S0:Hid (Below wr.heap.size wr wr.drew):=(Below.refl _ wr).drew;clear x0 x1 x2 x3 x4 x5 x6 d0 d1 d2;refine tkn (i:=0) rfl (by kernel_rfl) (fun _ _ _ h=>h) (by rfl) (by intro w h; (try dsimp only at h); go_simp; first | done | with_reducible rfl) hT ?_
      clear hT; intro hT; try simp only[Act.put,List.setIfInBounds_toArray,List.set]
      refine tkn (i:=1) rfl (by kernel_rfl) (fun _ _ _ h=>h) (by rfl) (by intro w h; (try dsimp only at h); go_simp; first | done | with_reducible rfl) hT ?_
      clear hT; intro hT; try simp only[Act.put,List.setIfInBounds_toArray,List.set]
      refine tkn (i:=2) rfl (by kernel_rfl) (fun _ _ _ h=>h) (by rfl) (by intro w h; (try dsimp only at h); go_simp; first | done | with_reducible rfl) hT ?_
      clear hT; intro hT; try simp only[Act.put,List.setIfInBounds_toArray,List.set]
      refine tkn (i:=3) rfl (by kernel_rfl) (fun _ _ _ h=>h) (by rfl) (by intro w h; (try dsimp only at h); go_simp; first | done | with_reducible rfl) hT ?_
      clear hT; intro hT; try simp only[Act.put,List.setIfInBounds_toArray,List.set]
      refine tkn (i:=4) rfl (by kernel_rfl) (fun _ _ _ h=>h) (by rfl) (by intro w h; (try dsimp only at h); go_simp; first | done | with_reducible rfl) hT ?_
      clear hT; intro hT; try simp only[Act.put,List.setIfInBounds_toArray,List.set]
      generalize wr.drew=V at S0 hT ⊢;clear hT
      apply via (F:=fun x p q b o c y=>ScR wr r b o y x∧(Own x p 49 [.slice none 0 0,.int .i64 0,.int .i64 0]∧Own x q 34 [.int .i64 0,.string ⟨#[]⟩,.slice none 0 0,.int .i64 0,.slice none 0 0])∧(wr.heap.size<=p∧wr.heap.size<=q∧p≠q)∧VP (some p) y∧VP (some q) y)
      case main=>
       intro key;refine VQ (i:=5) (j:=9) (m:=10) rfl rfl rfl (by kernel_rfl) (fun K hK=>?_) (fun K hK=>?_) (fun K hK=>?_)
       ·go_simp
        go_at_call 12
        refine (CA.out _ S0.out).mono ?_
        rintro _ xc ⟨b,o,c,hd,y,rfl,e1,⟨hA,hm⟩,⟨hy,hn⟩,gc⟩;have SC:=hid (ScR.mk e1 hm ⟨hd,hA⟩ hy (hn.less S0.out.size) (bel3 S0.out gc));have GC:=hid gc;have SB:=hid SC.out.below;refine hK.out _ _ ?hs1 ?rs1
        case hs1=>exact⟨HA.out _ SB.out,fun _=>trivial⟩
        clear hK K hA hy hn gc e1 hm; intro hT; try simp only[Act.put,List.setIfInBounds_toArray,List.set]
        refine tkn (i:=6) rfl (by kernel_rfl) (fun _ _ _ h=>h) (by rfl) (by intro w h; (try dsimp only at h); go_simp; first | done | with_reducible rfl) hT ?_
        clear hT; intro hT; try simp only[Act.put,List.setIfInBounds_toArray,List.set]
        refine tkn (i:=7) rfl (by kernel_rfl) (fun _ _ _ h=>h) (by rfl) (by intro w h; (try dsimp only at h); go_simp; first | done | with_reducible rfl) hT ?_
        clear hT; intro hT; try simp only[Act.put,List.setIfInBounds_toArray,List.set]
        refine tkn (i:=8) rfl (by kernel_rfl) (fun _ _ _ h=>h) (by rfl) (by intro w h; (try dsimp only at h); go_simp; first | done | with_reducible rfl) hT ?_
        clear hT; intro hT; try simp only[Act.put,List.setIfInBounds_toArray,List.set]
        refine Xe (i:=9) (j:=10) rfl rfl (by kernel_rfl) (fun K hK=>?_) (fun K hK=>?_)
        ·go_simp
         obtain⟨p,xp,e,f,g,Op⟩:=Zf xc 49 [.slice none 0 0,.int .i64 0,.int .i64 0];rw[e,f];have Wp:=hid (show wr.heap.size<=p by rw[<- e]; exact SB.out.size)
         have Sp:=hid (bel3 SB.out g);have Fp:=hid (SC.out.ok.off (g:=p) (Nat.le_of_eq e));have SC:=hid (SC.out.to g);refine hK.out _ _ ?hs2 ?rs2
         case hs2=>exact⟨HA.out _ Sp.out,fun _=>trivial⟩
         clear hT hK K e f g; intro hT; try simp only[Act.put,List.setIfInBounds_toArray,List.set]
         refine Z0 (i:=10) rfl (by kernel_rfl) (fun K hK=>?_)
         go_simp;obtain⟨q,xq,e,f,g,Oq⟩:=Zf xp 34 [.int .i64 0,.string ⟨#[]⟩,.slice none 0 0,.int .i64 0,.slice none 0 0];rw[e,f];have Wq:=hid (show wr.heap.size<=q by rw[<- e]; exact Sp.out.size)
         have NE:=hid (show p≠q from fun r=>by have:=Op.out.lt; rw[e] at this; omega)
         have Sq:=hid (bel3 Sp.out g);have Fq:=hid (SC.out.ok.off (g:=q) (Nat.le_of_eq e));have SC:=hid (SC.out.to g);have Op:=hid (Op.out.below' g);refine hK.out _ _ ?hs3 ?rs3
         case hs3=>exact⟨HA.out _ Sq.out,fun _=>trivial⟩
         clear hT hK K e f g; intro hT; try simp only[Act.put,List.setIfInBounds_toArray,List.set]
         exact key _ p q b o c y ⟨SC.out,⟨Op.out,Oq.out⟩,⟨Wp.out,Wq.out,NE.out⟩,Fp.out,Fq.out⟩
        ·go_simp
         obtain⟨q,xq,e,f,g,Oq⟩:=Zf xc 34 [.int .i64 0,.string ⟨#[]⟩,.slice none 0 0,.int .i64 0,.slice none 0 0];rw[e,f];have Wq:=hid (show wr.heap.size<=q by rw[<- e]; exact SB.out.size)
         have Sq:=hid (bel3 SB.out g);have Fq:=hid (SC.out.ok.off (g:=q) (Nat.le_of_eq e));have SC:=hid (SC.out.to g);refine hK.out _ _ ?hs4 ?rs4
         case hs4=>exact⟨HA.out _ Sq.out,fun _=>trivial⟩
         clear hT hK K e f g; intro hT; try simp only[Act.put,List.setIfInBounds_toArray,List.set]
         refine Z0 (i:=9) rfl (by kernel_rfl) (fun K hK=>?_)
         go_simp;obtain⟨p,xp,e,f,g,Op⟩:=Zf xq 49 [.slice none 0 0,.int .i64 0,.int .i64 0];rw[e,f];have Wp:=hid (show wr.heap.size<=p by rw[<- e]; exact Sq.out.size)
         have NE:=hid (show p≠q from fun r=>by have:=Oq.out.lt; rw[e] at this; omega)
         have Sp:=hid (bel3 Sq.out g);have Fp:=hid (SC.out.ok.off (g:=p) (Nat.le_of_eq e));have SC:=hid (SC.out.to g);have Oq:=hid (Oq.out.below' g);refine hK.out _ _ ?hs5 ?rs5
         case hs5=>exact⟨HA.out _ Sp.out,fun _=>trivial⟩
         clear hT hK K e f g; intro hT; try simp only[Act.put,List.setIfInBounds_toArray,List.set]
         exact key _ p q b o c y ⟨SC.out,⟨Op.out,Oq.out⟩,⟨Wp.out,Wq.out,NE.out⟩,Fp.out,Fq.out⟩
       ·go_simp
        obtain⟨p,xp,e,f,g,Op⟩:=Zf V 49 [.slice none 0 0,.int .i64 0,.int .i64 0];rw[e,f];have Wp:=hid (show wr.heap.size<=p by rw[<- e]; exact S0.out.size)
        have Sp:=hid (bel3 S0.out g);refine hK.out _ _ ?hs6 ?rs6
        case hs6=>exact⟨HA.out _ Sp.out,fun _=>trivial⟩
        clear hK K e f g; intro hT; try simp only[Act.put,List.setIfInBounds_toArray,List.set]
        refine Xe (i:=5) (j:=10) rfl rfl (by kernel_rfl) (fun K hK=>?_) (fun K hK=>?_)
        ·go_simp
         go_at_call 12
         refine (CA.out _ Sp.out).mono ?_
         rintro _ xc ⟨b,o,c,hd,y,rfl,e1,⟨hA,hm⟩,⟨hy,hn⟩,gc⟩;have SC:=hid (ScR.mk e1 hm ⟨hd,hA⟩ hy (hn.less Sp.out.size) (bel3 Sp.out gc));have GC:=hid gc;have SB:=hid SC.out.below;have Op0:=Op;have Op:=hid (Op.out.below' gc);have Fp:=hid (hn.off (row:=some p) (fun g e=>by cases e; exact Op0.out.lt))
         refine hK.out _ _ ?hs7 ?rs7
         case hs7=>exact⟨HA.out _ SB.out,fun _=>trivial⟩
         clear hT hK K hA hy hn gc e1 hm; intro hT; try simp only[Act.put,List.setIfInBounds_toArray,List.set]
         refine tkn (i:=6) rfl (by kernel_rfl) (fun _ _ _ h=>h) (by rfl) (by intro w h; (try dsimp only at h); go_simp; first | done | with_reducible rfl) hT ?_
         clear hT; intro hT; try simp only[Act.put,List.setIfInBounds_toArray,List.set]
         refine tkn (i:=7) rfl (by kernel_rfl) (fun _ _ _ h=>h) (by rfl) (by intro w h; (try dsimp only at h); go_simp; first | done | with_reducible rfl) hT ?_
         clear hT; intro hT; try simp only[Act.put,List.setIfInBounds_toArray,List.set]
         refine tkn (i:=8) rfl (by kernel_rfl) (fun _ _ _ h=>h) (by rfl) (by intro w h; (try dsimp only at h); go_simp; first | done | with_reducible rfl) hT ?_
         clear hT; intro hT; try simp only[Act.put,List.setIfInBounds_toArray,List.set]
         refine Z0 (i:=10) rfl (by kernel_rfl) (fun K hK=>?_)
         go_simp;obtain⟨q,xq,e,f,g,Oq⟩:=Zf xc 34 [.int .i64 0,.string ⟨#[]⟩,.slice none 0 0,.int .i64 0,.slice none 0 0];rw[e,f];have Wq:=hid (show wr.heap.size<=q by rw[<- e]; exact SB.out.size)
         have NE:=hid (show p≠q from fun r=>by have:=Op.out.lt; rw[e] at this; omega)
         have Sq:=hid (bel3 SB.out g);have Fq:=hid (SC.out.ok.off (g:=q) (Nat.le_of_eq e));have SC:=hid (SC.out.to g);have Op:=hid (Op.out.below' g);refine hK.out _ _ ?hs8 ?rs8
         case hs8=>exact⟨HA.out _ Sq.out,fun _=>trivial⟩
         clear hT hK K e f g; intro hT; try simp only[Act.put,List.setIfInBounds_toArray,List.set]
         exact key _ p q b o c y ⟨SC.out,⟨Op.out,Oq.out⟩,⟨Wp.out,Wq.out,NE.out⟩,Fp.out,Fq.out⟩
        ·go_simp
         obtain⟨q,xq,e,f,g,Oq⟩:=Zf xp 34 [.int .i64 0,.string ⟨#[]⟩,.slice none 0 0,.int .i64 0,.slice none 0 0];rw[e,f];have Wq:=hid (show wr.heap.size<=q by rw[<- e]; exact Sp.out.size)
         have NE:=hid (show p≠q from fun r=>by have:=Op.out.lt; rw[e] at this; omega)
         have Sq:=hid (bel3 Sp.out g);have Op:=hid (Op.out.below' g);refine hK.out _ _ ?hs9 ?rs9
         case hs9=>exact⟨HA.out _ Sq.out,fun _=>trivial⟩
         clear hT hK K e f g; intro hT; try simp only[Act.put,List.setIfInBounds_toArray,List.set]
         refine Z0 (i:=5) rfl (by kernel_rfl) (fun K hK=>?_)
         go_simp
         go_at_call 12
         refine (CA.out _ Sq.out).mono ?_
         rintro _ xc ⟨b,o,c,hd,y,rfl,e1,⟨hA,hm⟩,⟨hy,hn⟩,gc⟩;have SC:=hid (ScR.mk e1 hm ⟨hd,hA⟩ hy (hn.less Sq.out.size) (bel3 Sq.out gc));have GC:=hid gc;have SB:=hid SC.out.below;have Op0:=Op;have Op:=hid (Op.out.below' gc);have Fp:=hid (hn.off (row:=some p) (fun g e=>by cases e; exact Op0.out.lt))
         have Oq0:=Oq;have Oq:=hid (Oq.out.below' gc);have Fq:=hid (hn.off (row:=some q) (fun g e=>by cases e; exact Oq0.out.lt))
         refine hK.out _ _ ?hs10 ?rs10
         case hs10=>exact⟨HA.out _ SB.out,fun _=>trivial⟩
         clear hT hK K hA hy hn gc e1 hm; intro hT; try simp only[Act.put,List.setIfInBounds_toArray,List.set]
         refine tkn (i:=6) rfl (by kernel_rfl) (fun _ _ _ h=>h) (by rfl) (by intro w h; (try dsimp only at h); go_simp; first | done | with_reducible rfl) hT ?_
         clear hT; intro hT; try simp only[Act.put,List.setIfInBounds_toArray,List.set]
         refine tkn (i:=7) rfl (by kernel_rfl) (fun _ _ _ h=>h) (by rfl) (by intro w h; (try dsimp only at h); go_simp; first | done | with_reducible rfl) hT ?_
         clear hT; intro hT; try simp only[Act.put,List.setIfInBounds_toArray,List.set]
         refine tkn (i:=8) rfl (by kernel_rfl) (fun _ _ _ h=>h) (by rfl) (by intro w h; (try dsimp only at h); go_simp; first | done | with_reducible rfl) hT ?_
         clear hT; intro hT; try simp only[Act.put,List.setIfInBounds_toArray,List.set]
         exact key _ p q b o c y ⟨SC.out,⟨Op.out,Oq.out⟩,⟨Wp.out,Wq.out,NE.out⟩,Fp.out,Fq.out⟩
       ·go_simp
        obtain⟨q,xq,e,f,g,Oq⟩:=Zf V 34 [.int .i64 0,.string ⟨#[]⟩,.slice none 0 0,.int .i64 0,.slice none 0 0];rw[e,f];have Wq:=hid (show wr.heap.size<=q by rw[<- e]; exact S0.out.size)
        have Sq:=hid (bel3 S0.out g);refine hK.out _ _ ?hs11 ?rs11
        case hs11=>exact⟨HA.out _ Sq.out,fun _=>trivial⟩
        clear hK K e f g; intro hT; try simp only[Act.put,List.setIfInBounds_toArray,List.set]
        refine Xe (i:=5) (j:=9) rfl rfl (by kernel_rfl) (fun K hK=>?_) (fun K hK=>?_)
        ·go_simp
         go_at_call 12
         refine (CA.out _ Sq.out).mono ?_
         rintro _ xc ⟨b,o,c,hd,y,rfl,e1,⟨hA,hm⟩,⟨hy,hn⟩,gc⟩;have SC:=hid (ScR.mk e1 hm ⟨hd,hA⟩ hy (hn.less Sq.out.size) (bel3 Sq.out gc));have GC:=hid gc;have SB:=hid SC.out.below;have Oq0:=Oq;have Oq:=hid (Oq.out.below' gc);have Fq:=hid (hn.off (row:=some q) (fun g e=>by cases e; exact Oq0.out.lt))
         refine hK.out _ _ ?hs12 ?rs12
         case hs12=>exact⟨HA.out _ SB.out,fun _=>trivial⟩
         clear hT hK K hA hy hn gc e1 hm; intro hT; try simp only[Act.put,List.setIfInBounds_toArray,List.set]
         refine tkn (i:=6) rfl (by kernel_rfl) (fun _ _ _ h=>h) (by rfl) (by intro w h; (try dsimp only at h); go_simp; first | done | with_reducible rfl) hT ?_
         clear hT; intro hT; try simp only[Act.put,List.setIfInBounds_toArray,List.set]
         refine tkn (i:=7) rfl (by kernel_rfl) (fun _ _ _ h=>h) (by rfl) (by intro w h; (try dsimp only at h); go_simp; first | done | with_reducible rfl) hT ?_
         clear hT; intro hT; try simp only[Act.put,List.setIfInBounds_toArray,List.set]
         refine tkn (i:=8) rfl (by kernel_rfl) (fun _ _ _ h=>h) (by rfl) (by intro w h; (try dsimp only at h); go_simp; first | done | with_reducible rfl) hT ?_
         clear hT; intro hT; try simp only[Act.put,List.setIfInBounds_toArray,List.set]
         refine Z0 (i:=9) rfl (by kernel_rfl) (fun K hK=>?_)
         go_simp;obtain⟨p,xp,e,f,g,Op⟩:=Zf xc 49 [.slice none 0 0,.int .i64 0,.int .i64 0];rw[e,f];have Wp:=hid (show wr.heap.size<=p by rw[<- e]; exact SB.out.size)
         have NE:=hid (show p≠q from fun r=>by have:=Oq.out.lt; rw[e] at this; omega)
         have Sp:=hid (bel3 SB.out g);have Fp:=hid (SC.out.ok.off (g:=p) (Nat.le_of_eq e));have SC:=hid (SC.out.to g);have Oq:=hid (Oq.out.below' g);refine hK.out _ _ ?hs13 ?rs13
         case hs13=>exact⟨HA.out _ Sp.out,fun _=>trivial⟩
         clear hT hK K e f g; intro hT; try simp only[Act.put,List.setIfInBounds_toArray,List.set]
         exact key _ p q b o c y ⟨SC.out,⟨Op.out,Oq.out⟩,⟨Wp.out,Wq.out,NE.out⟩,Fp.out,Fq.out⟩
        ·go_simp
         obtain⟨p,xp,e,f,g,Op⟩:=Zf xq 49 [.slice none 0 0,.int .i64 0,.int .i64 0];rw[e,f];have Wp:=hid (show wr.heap.size<=p by rw[<- e]; exact Sq.out.size)
         have NE:=hid (show p≠q from fun r=>by have:=Oq.out.lt; rw[e] at this; omega)
         have Sp:=hid (bel3 Sq.out g);have Oq:=hid (Oq.out.below' g);refine hK.out _ _ ?hs14 ?rs14
         case hs14=>exact⟨HA.out _ Sp.out,fun _=>trivial⟩
         clear hT hK K e f g; intro hT; try simp only[Act.put,List.setIfInBounds_toArray,List.set]
         refine Z0 (i:=5) rfl (by kernel_rfl) (fun K hK=>?_)
         go_simp
         go_at_call 12
         refine (CA.out _ Sp.out).mono ?_
         rintro _ xc ⟨b,o,c,hd,y,rfl,e1,⟨hA,hm⟩,⟨hy,hn⟩,gc⟩;have SC:=hid (ScR.mk e1 hm ⟨hd,hA⟩ hy (hn.less Sp.out.size) (bel3 Sp.out gc));have GC:=hid gc;have SB:=hid SC.out.below;have Op0:=Op;have Op:=hid (Op.out.below' gc);have Fp:=hid (hn.off (row:=some p) (fun g e=>by cases e; exact Op0.out.lt))
         have Oq0:=Oq;have Oq:=hid (Oq.out.below' gc);have Fq:=hid (hn.off (row:=some q) (fun g e=>by cases e; exact Oq0.out.lt))
         refine hK.out _ _ ?hs15 ?rs15
         case hs15=>exact⟨HA.out _ SB.out,fun _=>trivial⟩
         clear hT hK K hA hy hn gc e1 hm; intro hT; try simp only[Act.put,List.setIfInBounds_toArray,List.set]
         refine tkn (i:=6) rfl (by kernel_rfl) (fun _ _ _ h=>h) (by rfl) (by intro w h; (try dsimp only at h); go_simp; first | done | with_reducible rfl) hT ?_
         clear hT; intro hT; try simp only[Act.put,List.setIfInBounds_toArray,List.set]
         refine tkn (i:=7) rfl (by kernel_rfl) (fun _ _ _ h=>h) (by rfl) (by intro w h; (try dsimp only at h); go_simp; first | done | with_reducible rfl) hT ?_
         clear hT; intro hT; try simp only[Act.put,List.setIfInBounds_toArray,List.set]
         refine tkn (i:=8) rfl (by kernel_rfl) (fun _ _ _ h=>h) (by rfl) (by intro w h; (try dsimp only at h); go_simp; first | done | with_reducible rfl) hT ?_
         clear hT; intro hT; try simp only[Act.put,List.setIfInBounds_toArray,List.set]
         exact key _ p q b o c y ⟨SC.out,⟨Op.out,Oq.out⟩,⟨Wp.out,Wq.out,NE.out⟩,Fp.out,Fq.out⟩
      case key=>
       intro x p q b o c y S;obtain⟨SC,⟨Op,Oq⟩,⟨Wp,Wq,NE⟩,Fp,Fq⟩:=S;have S:=hid (And.intro SC (And.intro Op (And.intro Oq (And.intro Wp (And.intro Wq (And.intro NE (And.intro Fp Fq)))))));clear SC Op Oq Wp Wq NE Fp Fq S0;have c0:=S.out.2.1.cell (i:=0) rfl;have c1:=S.out.2.1.cell (i:=1) rfl;have c2:=S.out.2.1.cell (i:=2) rfl;have f0:=S.out.2.1.free 0;have f1:=S.out.2.1.free 1;have f2:=S.out.2.1.free 2;refine Z0 (i:=11) rfl (by kernel_rfl) (fun K hK=>?_)
       go_simp;clear c0 c1 c2 f0 f1 f2;obtain⟨y1,hy1⟩:∃ z,((x.setCell ⟨p,0,none⟩ (.slice (some ⟨b,o,none⟩) 3 c)).setCell ⟨p,1,none⟩ (.int .i64 r.1.nx)).setCell ⟨p,2,none⟩ (.int .i64 r.1.rd)=z:=⟨_,rfl⟩;have T:=hid (S.out.1.st1 S.out.2.1 S.out.2.2.1 S.out.2.2.2.2.2.1 S.out.2.2.2.2.2.2.1 S.out.2.2.2.1 c y1 hy1);rw[hy1];clear hy1;refine hK.out _ _ ?hs16 ?rs16
       case hs16=>exact⟨HA.out _ T.out.1.below,fun _=>trivial⟩
       clear hK K; intro hT; try simp only[Act.put,List.setIfInBounds_toArray,List.set]
       have c0:=T.out.2.2.cell (i:=0) rfl;have c1:=T.out.2.2.cell (i:=1) rfl;have c2:=T.out.2.2.cell (i:=2) rfl;have c3:=T.out.2.2.cell (i:=3) rfl;have c4:=T.out.2.2.cell (i:=4) rfl;have f0:=T.out.2.2.free 0;have f1:=T.out.2.2.free 1;have f2:=T.out.2.2.free 2;have f3:=T.out.2.2.free 3;have f4:=T.out.2.2.free 4;refine Z0 (i:=12) rfl (by kernel_rfl) (fun K hK=>?_)
       unfold nxA;go_simp;clear c0 c1 c2 c3 c4 f0 f1 f2 f3 f4;obtain⟨y2,hy2⟩:∃ z,((((y1.setCell ⟨q,0,none⟩ (.int .i64 y.r.code)).setCell ⟨q,1,none⟩ (.string (str y.r.data))).setCell ⟨q,2,none⟩ (.slice y.f.a y.f.n y.f.c)).setCell ⟨q,3,none⟩ (.int .i64 y.r.count)).setCell ⟨q,4,none⟩ (.slice y.g.a y.g.n y.g.c)=z:=⟨_,rfl⟩;have T2:=hid (T.out.1.st2 T.out.2.1 T.out.2.2 S.out.2.2.2.2.2.1 S.out.2.2.2.2.2.2.2 S.out.2.2.2.2.1 y2 hy2);rw[hy2];clear hy2;refine hK.out _ _ ?hs17 ?rs17
       case hs17=>exact⟨HA.out _ T2.out.1.below,fun _=>trivial⟩
       clear hT hK K; intro hT; try simp only[Act.put,List.setIfInBounds_toArray,List.set]
       refine Zw (by kernel_rfl) ?_ _
       go_wp2_with fail
       go_meet
       exact⟨p,q,b,o,c,y,rfl,rfl,T2.out.1,T2.out.2,S.out.2.2.2.1,S.out.2.2.2.2.1⟩
     case rest=>
      obtain⟨p,q,b3,o3,c3,y,rfl,rfl,SC,⟨Op,Oq⟩,Wp,Wq⟩:=hcut;clear HA CA x0 x1 x2 x3 x4 x5 x6 d0 d1 d2;have plt:=HI.out.1.pl.2;have S1:=HI.out.1.se.below SC.below;have hsz:=HI.out.2.below SC.below plt;obtain⟨b4,o4,c4,hd4,j1,_,_⟩:=S1.ex;have g0:=j1.free 0;have g1:=j1.free 1;have g2:=j1.free 2;have v0:=j1.cell (i:=0) rfl;have v1:=j1.cell (i:=1) rfl;have v2:=j1.cell (i:=2) rfl;have t0:=Op.cell (i:=0) rfl;have t1:=Op.cell (i:=1) rfl;have t2:=Op.cell (i:=2) rfl;obtain⟨W2,hW2⟩:∃ W2,W2=((wc.setCell ⟨p0,0,none⟩ (.slice (some ⟨b3,o3,none⟩) 3 c3)).setCell ⟨p0,1,none⟩ (.int .i64 r.1.nx)).setCell ⟨p0,2,none⟩ (.int .i64 r.1.rd):=⟨_,rfl⟩;obtain⟨hs,hy,hc⟩:=Z6J S1 SC hsz plt W2 hW2;have hsz2:Siz W2 p0:=by rw[hW2]; exact ((hsz.set 0 (by omega) _).set 1 (by omega) _).set 2 (by omega) _
      have hqp:q≠p0:=by omega
      have O2:Own W2 q 34 (nxC y):=by rw[hW2]; exact ((Oq.other (p:=⟨p0,0,none⟩) hqp _).other (p:=⟨p0,1,none⟩) hqp _).other (p:=⟨p0,2,none⟩) hqp _
      have HY:=hid (And.intro SC (And.intro hsz2 (And.intro hs (And.intro hy hc))));clear SC S1 hsz hsz2 hs hy hc j1 Op Oq;go_upto_region 13 with fail
      rw[<- hW2];clear hW2 v0 v1 v2 g0 g1 g2 t0 t1 t2;have z0:=O2.cell (i:=0) rfl;have z1:=O2.cell (i:=1) rfl;have z2:=O2.cell (i:=2) rfl;have z3:=O2.cell (i:=3) rfl;have z4:=O2.cell (i:=4) rfl;clear O2;have hr:=HN.out.2;have hs:=HY.out.2.2.1;have he:=HY.out.1.eq;rw[hr] at hs he;obtain⟨⟨LL,A3,hLL,hq3,fin⟩,hcells,hps⟩:=HI.out.1.next HN.out.1 (Below.refl _ wr) he HY.out.2.2.2.1 HY.out.1.new hs HY.out.2.2.2.2;have A3:=hid A3;have HZ:=hid (And.intro HY.out.2.1 (And.intro (Nat.lt_of_lt_of_le plt HY.out.2.2.2.2.size) (show u10.ownBlock≠some p0 from fun e=>by have:=(World.ownsRow.lt A3.out.own p0 e).1; omega)))
      have HQ:=hid (And.intro hq3 (And.intro fin (And.intro hcells (And.intro hps hLL))));obtain⟨⟨yc,yd,yn,yt,yg⟩,⟨na,nn,nc⟩,⟨ga,gn,gc⟩⟩:=y;clear hr hs he hq3 fin hcells hps hLL HI HN HY;dsimp only[nxC] at A3 HQ z0 z1 z2 z3 z4 HZ;go_wp2_with (at_builtin; (refine WE _ rfl (.tmp 48) (.tmp 50) rfl (p0+1) u10 LL ⟨⟨yc,yd,yn,yt,yg⟩,⟨na,nn,nc⟩,⟨ga,gn,gc⟩⟩ rfl A3.out HQ.out.1 ⟨W2.heap.size,0,none⟩ rfl HQ.out.2.2.1 (by have:=HQ.out.2.2.2.2; omega) HQ.out.2.2.2.1 ?_; intro g5 m5 cap5 w5 hm5 hown5 hgrow5 hkz5; (have J5:=hid (And.intro (HQ.out.2.1 _ _ hown5 hgrow5 hkz5) (HZ.out.1.grown HZ.out.2.1 hgrow5 HZ.out.2.2))); clear hown5 hgrow5 hkz5 hm5))
      go_roundw
      case rel=>exact⟨k+1,_,by omega,by go_num,J5.out⟩
      case measure=>simp[intOf]; omega
    ·have hlt':¬ (k:Int)<m:=by omega
     obtain rfl:k=m:=by omega
     obtain⟨b2,o2,c2,hd2,p1,p2,p3⟩:=HI.out.1.se.ex;have d0:=p1.cell (i:=0) rfl;have CC:=hid (XR (some ⟨b2,o2,none⟩) 3 c2 h.A wr (.inr ⟨b2,o2,hd2,rfl,p2⟩) (ZN h.A HI.out.1.se.may));clear p1 p2 p3;go_wp2_with fail
     refine CC.out.mono ?_
     rintro _ w4 ⟨a4,c4,rfl,h4,g4⟩
     rcases h4 with ⟨h40,_⟩ | ⟨b4,hd4,rfl,hb4,F4⟩
     ·omega
     have H4:=HI.out.1.to g4;have r0:=H4.rb.cell (i:=0) rfl;have rf:=H4.rb.free 0;have K:=hid (H4.out (by rw[VO]; exact HH.out.2.2.2) (by rw[VO,<- HH.out.2.2.2]; omega) b4 0 c4 hd4 F4.arr)
     have y0:=World.cell?_setCell_same _ ⟨w.heap.size,0,none⟩ (.slice (some ⟨b4,0,none⟩) 3 c4) r0
     clear H4 HI F4 CC g4;go_wp2
     refine bodyPost_ret (v:=.tuple #[u10,.agg #[.slice (some ⟨b4,0,none⟩) 3 c4],.int .i64 0]) (by simp[results,Tryz.results5,go_sem,y0]) rfl ?_
     rw[<- HRA.out];exact K.out
 ·rw[if_neg e0]
  have e1:(R.2 != 0)=true:=bne_iff_ne.2 e0;have e2:(R.2==0)=false:=beq_eq_false_iff_ne.2 e0;have e3:decide (R.2=0)=false:=decide_eq_false e0;clear e0;go_enter Tryz.func5,Tryz.ntmps5
  go_upto_region 1 with fail
  rw[<- hW];clear hW;go_wp2_with fail
  refine CN.out.mono ?_
  rintro _ v1 ⟨⟨a,n1,c1,rfl,_⟩,g1⟩;have G1:=hid (bel3 HH.out.2.1 (bel3 g1 ((Below.refl _ v1).alloc (Nat.le_refl _) (.cells #[.slice a n1 c1] 26))));have q0:=(HH.out.2.2.1.below' (bel3 g1 ((Below.refl _ v1).alloc (Nat.le_refl _) (.cells #[.slice a n1 c1] 26)))).cell (i:=0) rfl;have qf:=(HH.out.2.2.1.below' (bel3 g1 ((Below.refl _ v1).alloc (Nat.le_refl _) (.cells #[.slice a n1 c1] 26)))).free 0;clear g1 r0 rf CN;go_upto_region 2 with fail
  generalize v1.alloc (.cells #[.slice a n1 c1] 26)=V at G1 q0 qf ⊢;have y0:=World.cell?_setCell_same V ⟨w.heap.size,0,none⟩ (.slice none 0 0) q0
  have K:=hid (Wr (x:=R.2) (G1.out.setCell (p:=⟨w.heap.size,0,none⟩) (Nat.le_refl _) (.slice none 0 0)));go_wp2
  refine bodyPost_ret (v:=.tuple #[.slice none 0 0,.agg #[.slice none 0 0],.int .i64 R.2]) (by simp[results,Tryz.results5,go_sem,y0]) rfl ?_
  exact K.out
end Go.Proofs.YtdnacpbgodooaaaGreatDoor
