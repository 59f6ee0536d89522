import Derived.Sort.OwnSortedInts
import Derived.Test.YtdnacpbgodooaaaGreatDoorScrubSH
set_option maxHeartbeats 1600000
namespace Go.Proofs.YtdnacpbgodooaaaGreatDoor
open Go.RowKit Go.Lib Go.Sort
def Uj (w:World) (g:Nat):Prop:=∃ cs t fr,w.heap[g]?=some (.cells cs t fr)∧∀ u∈cs.toList,∃ x,u=Value.int .i64 x
theorem Uj.cell {w:World} {g:Nat} (h:Uj w g) {p:Addr} {u:Value} (hp:p.block=g) (hc:w.cell? p=some u):∃ x,u=Value.int .i64 x:=by
 obtain⟨cs,t,fr,hb,ha⟩:=h;obtain⟨hs,_⟩:=Ym hc;obtain⟨b,o,s⟩:=p;cases hp
 cases hs
 simp only[World.cell?,hb] at hc
 refine ha u ?_
 have hc':cs[o]?=some u:=by simpa using hc
 rw[<- Array.getElem?_toList] at hc'
 exact List.mem_of_getElem? hc'
structure OwnN (w:World) (base:Nat) (v:Value) (L:List Int):Prop where
 own:Qj w base v L
 int:∀ g,v.ownBlock=some g->Uj w g
theorem ownN_nil (w:World) (base:Nat):OwnN w base (.slice none 0 0) []:=⟨ownsI_nil _ _,fun g h=>by cases h⟩
section
variable {w w':World} {base:Nat} {v:Value} {L:List Int}
theorem OwnN.below (h:OwnN w base v L) (g:Below w.heap.size w w'):OwnN w' base v L:=
 ⟨UL h.own g,fun b hb=>by
  obtain⟨cs,t,fr,h1,h2⟩:=h.int b hb;exact⟨cs,t,fr,(g.block b (World.ownsRow.lt h.own b hb).2).trans h1,h2⟩⟩
theorem OwnN.other (h:OwnN w base v L) {p:Addr} (hp:p.block<base) (u:Value):OwnN (w.setCell p u) base v L:=by
 refine⟨ownsRow_setCell_below h.own hp u,fun b hb=>?_⟩
 obtain⟨cs,t,fr,h1,h2⟩:=h.int b hb
 have:=(World.ownsRow.lt h.own b hb).1
 exact⟨cs,t,fr,(Below.heap_setCell w p u b (by omega)).trans h1,h2⟩
theorem OwnN.apart (h:OwnN w base v L) {p:Addr} {u:Value} (hc:w.cell? p=some u) (hu:∀ x,u≠.int .i64 x):v.ownBlock≠some p.block:=fun e=>by
 obtain⟨x,hx⟩:=(h.int _ e).cell rfl hc;exact hu x hx
end
theorem QT (n:Nat):∀ u∈(Builtin.zeroCells (Value.int .i64 0).cells n).toList,∃ x,u=Value.int .i64 x:=by
 intro u hu;simp[Builtin.zeroCells,Value.cells] at hu
 obtain⟨j,_,hj⟩:=hu;rw[Nat.mod_one] at hj;exact⟨0,hj.symm⟩
theorem Vd (L:List Int):∀ u∈ZX L,∃ x,u=Value.int .i64 x:=by
 intro u hu;obtain⟨x,_,rfl⟩:=List.mem_map.1 hu;exact⟨x,rfl⟩
theorem Z0H (w:World) (ty:TypeId) (base:Nat) (v:Value) (L:List Int) (k:Int) (H:OwnN w base v L) (ad:Addr) (hu:w.cell? ad=some (.int .i64 k)) (hbd:L.length<=1000) (hbase:base<=w.heap.size):
  ∃ g cap w',(Builtin.append_ #[32,32] ty #[v,.slice (some ad) 1 1]).run Tryz.prog w=.ok (.slice (some ⟨g,0,none⟩) (L++[k]).length cap) w'∧OwnN w' base (.slice (some ⟨g,0,none⟩) (L++[k]).length cap) (L++[k])∧w.grownBy w' v.ownBlock:=by
 obtain⟨i0,hi,hz0,hz1,hz2⟩:=info_parts Z25;have hnews:∀ j u,(ZX [k])[j]?=some u->w.cell? (ad.add j)=some u:=fun j u hj=>by
  match j,hj with
  | 0,hj=>simp[ZX] at hj; subst hj; exact hu
  | j+1,hj=>simp[ZX] at hj
 obtain⟨v',w',hr,ho,hg,_⟩:=run_append_own (P:=Tryz.prog) w base 32 ty 3 i0 (.int .i64 0) 1 8 Tryz.underlying32 hi hz0 hz1 hz2 rfl (by decide) v L.length (ZX L) H.own ad 1 1 (ZX [k]) rfl hnews (Wa _) (by unfold maxLen; omega) (by omega) hbase
 rw[show ZX [k]=[.int .i64 k] from rfl,<- TC,show L.length+1=(L++[k]).length by simp] at ho
 have hint:∀ g,v'.ownBlock=some g->Uj w' g:=by
  rcases H.own.2 with ⟨rfl,h0⟩ | ⟨g,cap,cur,rfl,hbg,hh,hnc,hcm,hcs,htake⟩
  ·have hr2:=run_append_nil (P:=Tryz.prog) w 32 ty 3 i0 (.int .i64 0) Tryz.underlying32 hi hz0 ad 1 1 (ZX [k]) (by rw[hz1]; rfl) hnews (by omega) (by omega) (by rw[hz2]; omega)
   rw[hr] at hr2;cases hr2
   intro g hgb;obtain rfl:w.heap.size=g:=by simpa[Value.ownBlock] using hgb
   refine⟨_,_,_,heap_alloc_new w.drew _,fun u hu=>?_⟩
   rw[Array.toList_append,List.mem_append] at hu
   rcases hu with hu | hu
   ·exact Vd [k] u hu
   ·exact QT _ u hu
  ·by_cases hroom:L.length+1<=cap
   ·have hr2:=run_append_room (P:=Tryz.prog) w 32 ty 3 i0 Tryz.underlying32 hi g L.length cap cur hh ad 1 1 (ZX [k]) (by rw[hz1]; rfl) hnews (Wa _) hroom (by rw[hz1,hcs]; simp[ZX]; omega)
    rw[hr] at hr2;cases hr2
    intro g' hgb;obtain rfl:g=g':=by simpa[Value.ownBlock] using hgb
    obtain⟨cs,t,fr,h1,h2⟩:=H.int g rfl;rw[hh] at h1;cases h1
    refine⟨_,_,_,setRow_heap w g cur _ _ _ hh,fun u hu=>?_⟩
    simp only[List.mem_append] at hu
    rcases hu with (hu | hu) | hu
    ·exact h2 u (List.mem_of_mem_take hu)
    ·exact Vd [k] u hu
    ·exact h2 u (List.mem_of_mem_drop hu)
   ·have holds:∀ j u,(ZX L)[j]?=some u->w.cell? ((⟨g,0,none⟩:Addr).add j)=some u:=World.ownsRow.cells H.own (g:=g) rfl
    have hr2:=run_append_grow (P:=Tryz.prog) w 32 ty 3 i0 (.int .i64 0) Tryz.underlying32 hi hz0 ⟨g,0,none⟩ L.length cap (ZX L) (by rw[Zt,hz1]; omega) holds ad 1 1 (ZX [k]) (by rw[hz1]; rfl) hnews (by omega) (by omega) (growslice_fits (by omega) (by rw[hz2]; omega))
    rw[hr] at hr2;cases hr2
    intro g' hgb;obtain rfl:w.heap.size=g':=by simpa[Value.ownBlock] using hgb
    refine⟨_,_,_,heap_alloc_new w.drew _,fun u hu=>?_⟩
    simp only[Array.toList_append,List.mem_append] at hu
    rcases hu with (hu | hu) | hu
    ·exact Vd L u hu
    ·exact Vd [k] u hu
    ·exact QT _ u hu
 obtain⟨g,cap,rfl,_⟩:=Zb ho (by simp)
 exact⟨g,cap,w',hr,⟨ho,hint⟩,hg⟩
theorem WF (w:World) {ops:Array Oper} {rest:List Oper} {o:Oper} {a:Act} {Q:Exit->Act->World->Prop} (hgd:o.guard=none) (s x:Operand)
  (ho:o.op=.call { callee:=.builtin .append,args:=#[s,x],argTypes:=#[32,32] })
  (base:Nat) (v:Value) (L:List Int) (k:Int) (hs:a.eval s=v) (hown:OwnN w base v L)
  (ad:Addr) (hx:a.eval x=.slice (some ad) 1 1) (hu:w.cell? ad=some (.int .i64 k)) (hbd:L.length<=1000) (hbase:base<=w.heap.size)
  (h:∀ g m cap w',Hid (m=(L++[k]).length)->OwnN w' base (.slice (some ⟨g,0,none⟩) m cap) (L++[k])->w.grownBy w' v.ownBlock->wpList Tryz.prog ops Q rest (a.put o.dst (.slice (some ⟨g,0,none⟩) m cap)) w'):
  wpList Tryz.prog ops Q (o::rest) a w:=by
 obtain⟨g,cap,w',hr,r1,r2⟩:=Z0H w o.type base v L k hown ad hu hbd hbase;refine wpList_plain hgd fun _ hK=>?_
 unfold Oper.wp;simp[execOp,ho,resolve,invoke,builtin,hs,hx,hr,Result.andThen]
 exact hK _ _ (h g _ cap w' (hid (by simp)) (by simpa using r1) r2)
def Z8w (w:World) (v:Value) (base:Nat) (L:List Int) (e:Ending) (w':World):Prop:=
 (∃ a n c,e=.returned (.slice a n c)∧ZP w' a n L∧(0<n->∀ b o s,a=some ⟨b,o,s⟩->base<=b))∧w.grownBy w' v.ownBlock
theorem Z3x (zs:List Int):(compact zs).length<=zs.length:=by
 unfold compact compactUpTo;rw[List.length_map]
 have:=List.length_filter_le (Go.Lib.keeps zs.toArray) (List.range zs.length)
 rw[List.length_range] at this;exact this
theorem Z1m (zs:List Int) (h:compact zs=[]):zs=[]:=by
 cases zs with
 | nil=>rfl
 | cons z r=>
  exfalso
  have:(0:Nat)∈(List.range (z::r).length).filter (Go.Lib.keeps (z::r).toArray):=by
   rw[List.mem_filter];exact⟨by simp,by simp[Go.Lib.keeps]⟩
  unfold compact compactUpTo at h;rw[List.map_eq_nil_iff] at h;rw[h] at this;cases this
theorem Z2X (base:Nat) (v:Value) (L:List Int) (w:World) (H:OwnN w base v L) (hL:L.length<=1000):
  Calls Tryz.prog 113 #[v] w (Z8w w v base (compact (L.mergeSort fun x y=>decide (x<=y)))):=by
 by_cases h0:L=[]
 ·subst h0
  obtain⟨a,m,c,rfl,hI⟩:=Qi H.own (by simp)
  obtain rfl:m=0:=hI.sn;have C1:=hid (Tryz.slices_Sort_int_none a c);have C2:=hid (Tryz.slices_Compact_int_empty a c);have e0:compact (([]:List Int).mergeSort fun x y=>decide (x<=y))=[]:=by simp[compact,compactUpTo]
  rw[e0];have HO:=hid (show Z8w w (.slice a 0 c) base [] (.returned (.slice a 0 c)) w from ⟨⟨a,0,c,rfl,intsAt_none _ _,fun h=>absurd h (by decide)⟩,⟨rfl,rfl,rfl,Nat.le_refl _,fun _ _ _=>rfl⟩⟩)
  clear H hI e0;go_enter Tryz.func113,Tryz.ntmps113
  go_wp2_with fail
  refine (C1.out _).mono ?_
  rintro _ w1 ⟨rfl,rfl⟩;go_wp2_with fail
  refine (C2.out _).mono ?_
  rintro _ w2 ⟨rfl,rfl⟩;go_wp2
  go_ret
  exact HO.out
 ·have hpos:0<L.length:=List.length_pos_iff.2 h0
  rcases H.own.2 with ⟨_,h1⟩ | ⟨g,cap,cur,rfl,hbg,hh,hnc,hcm,hcs,htake⟩
  ·omega
  rw[Nat.mul_one] at htake;have hlt:g<w.heap.size:=lt_of_block hh;have hH:Holds (Value.int .i64) w g 0 L.toArray:=holds_of_blockI hh htake;obtain⟨S,hS⟩:∃ S,S=L.mergeSort fun x y=>decide (x<=y):=⟨_,rfl⟩
  have hSl:S.length=L.length:=by rw[hS]; exact List.length_mergeSort _
  have C1:=Tryz.slices_Sort_int g 0 cap L w hH hlt (by omega)
  rw[<- hS] at C1;rw[<- hS];have C2:=fun wx (h:Holds (Value.int .i64) wx g 0 S.toArray)=>Tryz.slices_Compact_int g 0 cap S wx h (by omega) (by omega)
  rw[hSl] at C2;have hcl:=Z3x S;have hcp:0<(compact S).length:=by
   rcases Nat.eq_zero_or_pos (compact S).length with e | e
   ·have:=Z1m S (List.eq_nil_of_length_eq_zero e)
    rw[this] at hSl
    simp at hSl
    omega
   ·exact e
  rw[hSl] at hcl;have H1:=hid C1;have H2:=hid C2;have HK:=hid (And.intro hH (And.intro hlt (And.intro hSl (And.intro hcl hbg))));clear C1 C2 hH hS H htake hh hcs;go_enter Tryz.func113,Tryz.ntmps113
  go_wp2_with fail
  refine H1.out.mono ?_
  rintro _ w1 ⟨rfl,n1,os1,hw1⟩;have hH1:Holds (Value.int .i64) w1 g 0 S.toArray:=by
   rw[hw1];exact holds_grow _ _ _ _ _ _ (by simpa using HK.out.2.1) (holds_putRow _ _ _ _ L.toArray _ (holds_ahead _ _ _ _ _ _ HK.out.1) (by simp[HK.out.2.2.1]))
  have g1:w.grownBy w1 (some g):=by rw[hw1]; exact grownBy_sortedI _
  have HG1:=hid (And.intro g1 hH1);clear hw1 g1 hH1;go_wp2_with fail
  refine (H2.out _ HG1.out.2).mono ?_
  rintro _ w2 ⟨rfl,q,hw2⟩;have hH2:Holds (Value.int .i64) w2 g 0 (compact S++List.replicate (L.length-(compact S).length) 0).toArray:=by
   rw[hw2];exact holds_putRow _ _ _ _ S.toArray _ (holds_ahead _ _ _ _ _ _ HG1.out.2) (by simp[HK.out.2.2.1]; have:=HK.out.2.2.2.1; omega)
  have hs2:w2.heap.size=w1.heap.size:=by rw[hw2]; simp
  have g2:w1.grownBy w2 (some g):=by
   have:=grownBy_sortedI (w:=w1) (g:=g) (n:=q) (os:=#[]) (compact S++List.replicate (L.length-(compact S).length) 0).toArray
   rw[grow_empty,<- hw2] at this;exact this
  have HO:=hid (show Z8w w (.slice (some ⟨g,0,none⟩) L.length cap) base (compact S) (.returned (.slice (some ⟨g,0,none⟩) (compact S).length cap)) w2 from by
   refine⟨⟨some ⟨g,0,none⟩,_,cap,rfl,⟨rfl,by unfold maxLen; have:=HK.out.2.2.2.1; omega,fun i u hu=>?_⟩,fun _ b o s e=>by cases e; exact HK.out.2.2.2.2⟩,ZB HG1.out.1 g2⟩
   have hi:i<(compact S).length:=by
    rcases Nat.lt_or_ge i (compact S).length with h1 | h1
    ·exact h1
    ·rw[List.getElem?_eq_none (by rw[Zt]; exact h1)] at hu; cases hu
   refine⟨g,0,rfl,?_,?_⟩
   ·have:=HG1.out.1.size; have:=HK.out.2.1; omega
   ·have hc:=(hH2 i (by simp; omega)).1
    rw[hc];have e:(compact S++List.replicate (L.length-(compact S).length) 0).toArray[i]! = (compact S)[i]:=by
     rw[getElem!_pos _ i (by simp; omega)]
     simp[hi]
    rw[e];simp[ZX,hi] at hu
    rw[hu])
  clear hw2 hH2 hs2 g2;go_wp2
  go_ret
  exact HO.out
end Go.Proofs.YtdnacpbgodooaaaGreatDoor
namespace Go.Proofs.YtdnacpbgodooaaaGreatDoor
open Go.RowKit Go.Lib
structure Box1 (w:World) (p:Nat) (d:Value):Prop where
 c0:w.cell? ⟨p,0,none⟩=some d
 f0:w.frozen? ⟨p,0,none⟩=false
 lt:p<w.heap.size
section
variable {w w':World} {p:Nat} {d d1 d2:Value}
theorem Box1.of_block (h:Box1 w p d) (e:w'.heap[p]?=w.heap[p]?) (hs:w.heap.size<=w'.heap.size):Box1 w' p d:=
 ⟨(World.cell?_of_block (a:=⟨p,0,none⟩) e).trans h.c0,(World.frozen?_of_block (a:=⟨p,0,none⟩) e).trans h.f0,Nat.lt_of_lt_of_le h.lt hs⟩
theorem Box1.below (h:Box1 w p d) (g:Below w.heap.size w w'):Box1 w' p d:=h.of_block (g.block p h.lt) g.size
theorem Box1.store (h:Box1 w p d) (v:Value):Box1 (w.setCell ⟨p,0,none⟩ v) p v:=
 ⟨World.cell?_setCell_same _ _ _ h.c0,by rw[World.frozen?_setCell]; exact h.f0,by rw[Z3]; exact h.lt⟩
theorem Box1.other (h:Box1 w p d) {q:Addr} (hq:p≠q.block) (v:Value):Box1 (w.setCell q v) p d:=h.of_block (Below.heap_setCell w q v p hq) (by rw[Z3]; exact Nat.le_refl _)
theorem Box2.of_block (h:Box2 w p d1 d2) (e:w'.heap[p]?=w.heap[p]?) (hs:w.heap.size<=w'.heap.size):Box2 w' p d1 d2:=
 ⟨(World.cell?_of_block (a:=⟨p,0,none⟩) e).trans h.c0,(World.cell?_of_block (a:=⟨p,1,none⟩) e).trans h.c1,(World.frozen?_of_block (a:=⟨p,0,none⟩) e).trans h.f0,(World.frozen?_of_block (a:=⟨p,1,none⟩) e).trans h.f1,Nat.lt_of_lt_of_le h.lt hs⟩
end
theorem Qz (w:World) (p:Addr) (v:Value):w.grownBy (w.setCell p v) (some p.block):=⟨rfl,rfl,rfl,by rw[Z3]; exact Nat.le_refl _,fun k _ hk=>Below.heap_setCell w p v k (fun e=>hk (by rw[e]))⟩
theorem OwnN.off {w:World} {base:Nat} {v:Value} {L:List Int} (h:OwnN w base v L) {p:Addr} (hp:v.ownBlock≠some p.block) (u:Value):OwnN (w.setCell p u) base v L:=by
 refine⟨World.ownsRow.kept h.own (Qz w p u) ?_,fun b hb=>?_⟩
 ·cases e:v.ownBlock with
  | none=>exact .inl rfl
  | some x=>exact .inr (fun h2=>hp (e.trans h2))
 ·obtain⟨cs,t,fr,h1,h2⟩:=h.int b hb
  exact⟨cs,t,fr,(Below.heap_setCell w p u b (fun e=>hp (by rw[hb,e]))).trans h1,h2⟩
structure StB (w:World) (pw:Nat) (b cw:Nat) (A:Ar) (x r:Int) (wr:World):Prop where
 bx:Box1 wr pw (.slice (some ⟨b,0,none⟩) 3 cw)
 ar:∃ h,Arr wr b 0 3 h A
 bb:w.heap.size+4<=b
 cu:Box2 wr (w.heap.size+1) (.int .i64 x) (.int .i64 r)
 r6:Box1 wr (w.heap.size+2) (.slice none 0 0)
 r7:Box2 wr (w.heap.size+3) (.int .i64 0) (.int .i64 0)
 pb:w.heap.size+4<=pw
 lt:w.heap.size+4<=wr.heap.size
 below:Below w.heap.size w wr
section
variable {w wr w':World} {pw b cw:Nat} {A:Ar} {x r:Int} {v:Value} {L:List Int}
theorem StB.to (H:StB w pw b cw A x r wr) (g:Below wr.heap.size wr w'):StB w pw b cw A x r w':=by
 obtain⟨h,hA⟩:=H.ar;exact⟨H.bx.below g,⟨h,hA.below g⟩,H.bb,H.cu.below g,H.r6.below g,H.r7.below g,H.pb,Nat.le_trans H.lt g.size,bel3 H.below g⟩
theorem StB.grown (H:StB w pw b cw A x r wr) (hO:OwnN wr (w.heap.size+4) v L) (g:wr.grownBy w' v.ownBlock):StB w pw b cw A x r w':=by
 obtain⟨h,hA⟩:=H.ar;have hk:∀ p u,wr.cell? p=some u->(∀ n,u≠.int .i64 n)->w'.heap[p.block]?=wr.heap[p.block]?:=fun p u hc hu=>g.block p.block (Ym hc).2 (fun e=>hO.apart hc hu e.symm)
 have lo:∀ k,k<w.heap.size+4->w'.heap[k]?=wr.heap[k]?:=fun k hk=>g.block k (Nat.lt_of_lt_of_le hk H.lt) (fun e=>by have:=(World.ownsRow.lt hO.own k e.symm).1; omega)
 refine⟨H.bx.of_block (hk _ _ H.bx.c0 (fun _ e=>by cases e)) g.size,⟨h,hA.keeps g.size (fun p u hc hu=>(World.cell?_of_block (a:=p) (hk p u hc hu)).trans hc)⟩,H.bb,H.cu.of_block (lo _ (by omega)) g.size,H.r6.of_block (lo _ (by omega)) g.size,H.r7.of_block (lo _ (by omega)) g.size,H.pb,Nat.le_trans H.lt g.size,?_⟩
 exact H.below.grown g H.below.size (fun k hk=>by have:=(World.ownsRow.lt hO.own k hk).1; omega)
theorem StB.put (H:StB w pw b cw A x r wr) {b':Nat} (c':Nat) {h':Nat->Hd} {A':Ar} (hA:Arr wr b' 0 3 h' A') (hp:pw≠b') (hb:w.heap.size+4<=b'):StB w pw b' c' A' x r (wr.setCell ⟨pw,0,none⟩ (.slice (some ⟨b',0,none⟩) 3 c')):=by
 have pb:=H.pb;refine⟨H.bx.store _,⟨h',hA.box hp H.bx.c0 _⟩,hb,H.cu.other (by show _≠pw; omega) _,H.r6.other (by show _≠pw; omega) _,H.r7.other (by show _≠pw; omega) _,pb,by rw[Z3]; exact H.lt,H.below.setCell (by show w.heap.size<=pw; omega) _⟩
theorem StB.putN (H:StB w pw b cw A x r wr) (hO:OwnN wr (w.heap.size+4) v L) (u:Value):OwnN (wr.setCell ⟨pw,0,none⟩ u) (w.heap.size+4) v L:=hO.off (hO.apart H.bx.c0 (fun _ e=>by cases e)) u
theorem StB.cur (H:StB w pw b cw A x r wr) (x' r':Int):StB w pw b cw A x' r' ((wr.setCell ⟨w.heap.size+1,0,none⟩ (.int .i64 x')).setCell ⟨w.heap.size+1,1,none⟩ (.int .i64 r')):=by
 have pb:=H.pb;obtain⟨h,hA⟩:=H.ar;have e1:(wr.setCell ⟨w.heap.size+1,0,none⟩ (.int .i64 x')).cell? ⟨w.heap.size+1,1,none⟩=some (.int .i64 r):=by rw[World.cell?_setCell_other _ _ _ _ (by simp)]; exact H.cu.c1
 refine⟨(H.bx.other (by show pw≠w.heap.size+1; omega) _).other (by show pw≠w.heap.size+1; omega) _,⟨h,(hA.number H.cu.c0 _).number e1 _⟩,H.bb,H.cu.store _ _,(H.r6.other (by show w.heap.size+2≠w.heap.size+1; omega) _).other (by show w.heap.size+2≠w.heap.size+1; omega) _,(H.r7.other (by show w.heap.size+3≠w.heap.size+1; omega) _).other (by show w.heap.size+3≠w.heap.size+1; omega) _,pb,by rw[Z3,Z3]; exact H.lt,(H.below.setCell (by show w.heap.size<=w.heap.size+1; omega) _).setCell (by show w.heap.size<=w.heap.size+1; omega) _⟩
end
def OutSt (w:World) (R:Tr) (e:Ending) (w':World):Prop:=
 (∃ a n c a2 n2 c2,e=.returned (.tuple #[.agg #[.slice a n c],.agg #[.int .i64 R.nx,.int .i64 R.rd],.int .i64 R.ct,.slice a2 n2 c2,.int .i64 R.e])∧Z5 w' a n R.A∧ZP w' a2 n2 (ups R.gone))∧Below w.heap.size w w'
def YR (w:World) (R:Tr) (e:Ending) (w':World):Prop:=
 (∃ a n c a2 n2 c2,e=.returned (.tuple #[.agg #[.slice a n c],.agg #[.int .i64 R.nx,.int .i64 R.rd],.int .i64 R.ct,.slice a2 n2 c2,.int .i64 R.e])∧(Z5 w' a n R.A∧NewS w.heap.size a n)∧ZP w' a2 n2 (ups R.gone)∧NewS w.heap.size a2 n2)∧Below w.heap.size w w'
theorem YR.out {w w':World} {R:Tr} {e:Ending} (h:YR w R e w'):OutSt w R e w':=by
 obtain⟨⟨a,n,c,a2,n2,c2,h1,⟨h2,_⟩,h3,_⟩,h4⟩:=h;exact⟨⟨a,n,c,a2,n2,c2,h1,h2,h3⟩,h4⟩
theorem Zd.far {w:World} {x:Option Addr} {V:List Value} (h:Zd w x V) {p:Addr} (hp:∀ b o s,x=some ⟨b,o,s⟩->b≠p.block) (u:Value):Zd (w.setCell p u) x V:=by
 intro i v hv;obtain⟨b,o,e,hlt,hc⟩:=h i v hv;refine⟨b,o,e,by rw[Z3]; exact hlt,?_⟩
 rw[World.cell?_setCell_other _ _ _ _ (fun e2=>hp b o none e (congrArg Addr.block e2).symm)]
 exact hc
theorem ZP.far {w:World} {x:Option Addr} {n:Nat} {L:List Int} (h:ZP w x n L) {p:Addr} {B:Nat} (hx:0<n->∀ b o s,x=some ⟨b,o,s⟩->B<=b) (hp:p.block<B) (u:Value):ZP (w.setCell p u) x n L:=by
 refine⟨h.sn,h.nb,?_⟩
 by_cases h0:n=0
 ·have:L=[]:=List.eq_nil_of_length_eq_zero (by rw[<- h.sn,h0])
  rw[this];exact Zd.nil
 ·exact h.R.far (fun b o s e=>by have:=hx (by omega) b o s e; omega) u
theorem StB.out {w wr:World} {pw b cw:Nat} {A:Ar} {x r:Int} (H:StB w pw b cw A x r wr) {a2:Option Addr} {n2:Nat} (c2:Nat) {L:List Nat} (hI:ZP wr a2 n2 (ups L)) (hx:0<n2->∀ b o s,a2=some ⟨b,o,s⟩->w.heap.size+4<=b) (ct:Int):
  YR w ⟨A,x,r,ct,L,0⟩ (.returned (.tuple #[.agg #[.slice (some ⟨b,0,none⟩) 3 cw],.agg #[.int .i64 x,.int .i64 r],.int .i64 ct,.slice a2 n2 c2,.int .i64 0])) (((wr.setCell ⟨w.heap.size+2,0,none⟩ (.slice (some ⟨b,0,none⟩) 3 cw)).setCell ⟨w.heap.size+3,0,none⟩ (.int .i64 x)).setCell ⟨w.heap.size+3,1,none⟩ (.int .i64 r)):=by
 obtain⟨h,hA⟩:=H.ar;have bb:=H.bb;have H7:=H.r7.other (q:=⟨w.heap.size+2,0,none⟩) (by show w.heap.size+3≠w.heap.size+2; omega) (.slice (some ⟨b,0,none⟩) 3 cw)
 have e1:((wr.setCell ⟨w.heap.size+2,0,none⟩ (.slice (some ⟨b,0,none⟩) 3 cw)).setCell ⟨w.heap.size+3,0,none⟩ (.int .i64 x)).cell? ⟨w.heap.size+3,1,none⟩=some (.int .i64 0):=by rw[World.cell?_setCell_other _ _ _ _ (by simp)]; exact H7.c1
 refine⟨⟨_,3,cw,a2,n2,c2,rfl,⟨.inr ⟨b,0,h,rfl,((hA.box (by omega) H.r6.c0 _).number H7.c0 _).number e1 _⟩,fun _ b' o s e=>by cases e; omega⟩,?_,fun h0 b' o s e=>by have:=hx h0 b' o s e; omega⟩,((H.below.setCell (by show w.heap.size<=w.heap.size+2; omega) _).setCell (by show w.heap.size<=w.heap.size+3; omega) _).setCell (by show w.heap.size<=w.heap.size+3; omega) _⟩
 exact ((hI.far hx (by show w.heap.size+2<w.heap.size+4; omega) _).far hx (by show w.heap.size+3<w.heap.size+4; omega) _).far hx (by show w.heap.size+3<w.heap.size+4; omega) _
theorem Yc {w w':World} {x:Int} (g:Below w.heap.size w w'):YR w (VV x) (.returned (.tuple #[.agg #[.slice none 0 0],.agg #[.int .i64 0,.int .i64 0],.int .i64 0,.slice none 0 0,.int .i64 x])) w':=
 ⟨⟨none,0,0,none,0,0,rfl,⟨.inl ⟨rfl,rfl⟩,newS_nil _ _⟩,intsAt_none _ _,newS_nil _ _⟩,g⟩
theorem Jn {w W w2:World} {b cc:Nat} {h:Nat->Hd} {A:Ar} {x r:Int} (hB:Below w.heap.size w W) (hz:W.heap.size=w.heap.size+4) (cu:Box2 W (w.heap.size+1) (.int .i64 x) (.int .i64 r)) (r6:Box1 W (w.heap.size+2) (.slice none 0 0)) (r7:Box2 W (w.heap.size+3) (.int .i64 0) (.int .i64 0)) (g:Below W.heap.size W w2) (hb:W.heap.size<=b) (hf:Arr w2 b 0 3 h A):
  StB w w2.heap.size b cc A x r (w2.alloc (.cells #[.slice (some ⟨b,0,none⟩) 3 cc] 26)):=by
 have ga:Below w2.heap.size w2 (w2.alloc (.cells #[.slice (some ⟨b,0,none⟩) 3 cc] 26)):=(Below.refl _ w2).alloc (Nat.le_refl _) _;have gg:=bel3 g ga
 have:=g.size
 have:=ga.size
 exact⟨⟨by simp[go_sem],by simp[go_sem],by simp⟩,⟨h,hf.below ga⟩,by omega,cu.below gg,r6.below gg,r7.below gg,by omega,by omega,bel3 hB gg⟩
theorem Z7P (n:Nat) (s:Sc):Z4G s.nx n=((scOne n s).nx:Int)∧nextR s.nx s.rd n=(scOne n s).rd:=by
 have e1:(scOne n s).nx=if s.nx+1<n then s.nx+1 else 0:=rfl
 have e2:(scOne n s).rd=if s.nx+1<n then s.rd else s.rd+1:=rfl
 rw[e1,e2];unfold Z4G nextR
 by_cases e:s.nx+1<n
 ·have e':(s.nx:Int)+1<n:=by omega
  rw[if_pos e,if_pos e,if_pos e',if_pos e'];exact⟨by omega,rfl⟩
 ·have e':¬ (s.nx:Int)+1<n:=by omega
  rw[if_neg e,if_neg e,if_neg e',if_neg e'];exact⟨rfl,rfl⟩
theorem UA (n:Nat) (A:Ar) (nx:Nat) (rd:Int):∀ k:Nat,rd<=(scN n (scBegin A nx rd) k).rd∧(scN n (scBegin A nx rd) k).rd<=rd+k
 | 0=>⟨Int.le_refl _,by show rd<=rd+0; omega⟩
 | k+1=>by
  have h:=UA n A nx rd k;have e:(scN n (scBegin A nx rd) (k+1)).rd=if (scN n (scBegin A nx rd) k).nx+1<n then (scN n (scBegin A nx rd) k).rd else (scN n (scBegin A nx rd) k).rd+1:=rfl
  rw[e]
  split <;> omega
end Go.Proofs.YtdnacpbgodooaaaGreatDoor
