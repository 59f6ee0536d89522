import Derived.Test.YtdnacpbgodooaaaGreatDoorRows
import Derived.Test.YtdnacpbgodooaaaGreatDoorLow
import Derived.WalkLawsBesides
import Derived.Deep.RegionLaw
import Derived.Deep.LoopGhost
import Derived.Deep.OwnRows
set_option maxRecDepth 20000
namespace Go.Proofs.YtdnacpbgodooaaaGreatDoor
open Go.RowKit Go.Lib
theorem VG:(Tryz.prog.info? 5).map (fun i=>(i.zero,i.size,i.bytes))=some (some (.int .u8 0),1,1):=by kernel_rfl
def Za (l:List UInt8):List Value:=l.map fun b=>Value.int .u8 b.toNat
theorem bytesV_app (a b:List UInt8):Za (a++b)=Za a++Za b:=by simp[Za]
theorem YM (l:List UInt8):(Za l).length=l.length:=by simp[Za]
theorem strCells_eq (s:ByteArray):strCells s=Za s.data.toList:=rfl
theorem TQ (n:Int) (h0:0<=n) (h1:n<256):Za [byt n]=[.int .u8 n]:=by simp[Za,byt_nat n h0 h1]
theorem T8 (n m:Int) (h0:0<=n) (h1:n<256) (g0:0<=m) (g1:m<256):Za [byt n,byt m]=[.int .u8 n,.int .u8 m]:=by simp[Za,byt_nat n h0 h1,byt_nat m g0 g1]
def Zz (w:World) (base:Nat) (v:Value) (l:List UInt8):Prop:=w.ownsRow base 5 1 v l.length (Za l)
theorem Wv {w:World} {base:Nat} {v:Value} {l:List UInt8} (h:Zz w base v l):(convert 103 9 v).run Tryz.prog w=.ok (.string (str l)) w:=by
 rcases h.2 with ⟨rfl,h0⟩ | ⟨g,cap,cur,rfl,hg,hh,hnc,hcp,hcs,htake⟩
 ·obtain rfl:l=[]:=List.eq_nil_of_length_eq_zero h0
  rfl
 ·refine run_convert_bytes_back (P:=Tryz.prog) w 103 9 5 ⟨g,0,none⟩ cap l Tryz.underlying103 Tryz.underlying5 Tryz.underlying9 ?_
  intro j hj;exact World.ownsRow.cells h (g:=g) rfl j _ (by simp[Za,hj])
theorem Zb {w:World} {base size n:Nat} {e:TypeId} {v:Value} {xs:List Value} (h:w.ownsRow base e size v n xs) (hn:0<n):∃ g cap,v=.slice (some ⟨g,0,none⟩) n cap∧base<=g:=by
 rcases h.2 with ⟨_,h0⟩ | ⟨g,cap,_,hv,hb,_⟩
 ·omega
 ·exact⟨g,cap,hv,hb⟩
theorem YD (l:List UInt8):∀ u∈Za l,u.oneCell'=true:=by
 intro u hu;simp only[Za,List.mem_map] at hu
 obtain⟨b,_,rfl⟩:=hu
 rfl
theorem Wb (w:World) (n:Int) (h0:0<=n) (h1:n<256) (t:TypeId):∀ j u,(Za [byt n])[j]?=some u->(w.alloc (.cells #[.int .u8 n] t)).cell? ((⟨w.heap.size,0,none⟩:Addr).add j)=some u:=by
 intro j u hj;rw[TQ n h0 h1] at hj
 match j,hj with
 | 0,hj=>simp at hj; subst hj; simp[Addr.add]
 | j+1,hj=>simp at hj
theorem Z12 (w:World) (n m:Int) (h0:0<=n) (h1:n<256) (g0:0<=m) (g1:m<256) (t:TypeId):∀ j u,(Za [byt n,byt m])[j]?=some u->(w.alloc (.cells #[.int .u8 n,.int .u8 m] t)).cell? ((⟨w.heap.size,0,none⟩:Addr).add j)=some u:=by
 rw[T8 n m h0 h1 g0 g1];exact cell_two_new w _ _ t
theorem Z9 (w:World) {ops:Array Oper} {rest:List Oper} {o:Oper} {a:Act} {Q:Exit->Act->World->Prop} (hgd:o.guard=none) (s x:Operand)
  (ho:o.op=.call { callee:=.builtin .append,args:=#[s,x],argTypes:=#[103,103] })
  (base:Nat) (v:Value) (l:List UInt8) (hs:a.eval s=v) (hown:Zz w base v l)
  (ad:Addr) (c:Nat) (N:List UInt8) (hx:a.eval x=.slice (some ad) N.length c) (hnews:∀ j u,(Za N)[j]?=some u->w.cell? (ad.add j)=some u)
  (hN:0<N.length) (hbd:l.length+N.length<=140737488355328) (hbase:base<=w.heap.size)
  (h:∀ g m cap w',Hid (m=(l++N).length)->base<=g->Zz w' base (.slice (some ⟨g,0,none⟩) m cap) (l++N)->w.grownBy w' v.ownBlock->wpList Tryz.prog ops Q rest (a.put o.dst (.slice (some ⟨g,0,none⟩) m cap)) w'):
  wpList Tryz.prog ops Q (o::rest) a w:=by
 obtain⟨i0,hi,hz0,hz1,hz2⟩:=info_parts VG;refine wpList_append_own w hgd s x 103 ho base 5 i0 (.int .u8 0) 1 1 Tryz.underlying103 hi hz0 hz1 hz2 rfl (by decide) v l.length (Za l) hs hown ad N.length c (Za N) hx (by rw[YM,Nat.mul_one]) hnews (YD N) (by unfold maxLen; omega) (by omega) hbase ?_
 intro v' w' h1 h2 _;rw[<- bytesV_app,<- List.length_append] at h1;obtain⟨g,cap,rfl,hg⟩:=Zb h1 (by simp; omega)
 exact h g _ cap w' rfl hg h1 h2
theorem ZL (w:World) {ops:Array Oper} {rest:List Oper} {o:Oper} {a:Act} {Q:Exit->Act->World->Prop} (hgd:o.guard=none) (sl x:Operand)
  (ho:o.op=.call { callee:=.builtin .append,args:=#[sl,x],argTypes:=#[103,9] })
  (base:Nat) (v:Value) (l:List UInt8) (hs:a.eval sl=v) (hown:Zz w base v l) (s:ByteArray) (hx:a.eval x=.string s)
  (hN:0<s.size) (hbd:l.length+s.size<=140737488355328) (hbase:base<=w.heap.size)
  (h:∀ g m cap w',Hid (m=(l++s.data.toList).length)->base<=g->Zz w' base (.slice (some ⟨g,0,none⟩) m cap) (l++s.data.toList)->w.grownBy w' v.ownBlock->wpList Tryz.prog ops Q rest (a.put o.dst (.slice (some ⟨g,0,none⟩) m cap)) w'):
  wpList Tryz.prog ops Q (o::rest) a w:=by
 obtain⟨i0,hi,hz0,hz1,hz2⟩:=info_parts VG;refine wpList_append_own_string w hgd sl x 103 9 ho base 5 i0 Tryz.underlying103 Tryz.underlying9 hi hz0 hz1 hz2 v l.length (Za l) hs hown s hx (by unfold maxLen; omega) (by omega) hbase ?_
 intro v' w' h1 h2 _;rw[strCells_eq,<- bytesV_app,show l.length+s.size=(l++s.data.toList).length by simp] at h1
 obtain⟨g,cap,rfl,hg⟩:=Zb h1 (by simp; omega)
 exact h g _ cap w' rfl hg h1 h2
theorem Ji {ops:Array Oper} {o:Oper} {a:Act} {w:World} {K:Act->World->Prop} {Q:Exit->Act->World->Prop} {E:Prop}
  (hg:o.guard=none) (sl x:Operand) (hop:o.op=Op.call { callee:=Callee.builtin Builtin.append,args:=#[sl,x],argTypes:=#[103,9] })
  (base:Nat) (v:Value) (l:List UInt8) (hs:a.eval sl=v) (hown:Zz w base v l) (s:ByteArray) (hx:a.eval x=.string s)
  (hN:0<s.size) (hbd:l.length+s.size<=140737488355328) (hbase:base<=w.heap.size)
  (hK:∀ g m cap w',Hid (m=(l++s.data.toList).length)->base<=g->Zz w' base (.slice (some ⟨g,0,none⟩) m cap) (l++s.data.toList)->w.grownBy w' v.ownBlock->K (a.put o.dst (.slice (some ⟨g,0,none⟩) m cap)) w'):
  if Region.wanted o (yielded ops a.tmps)=true then Oper.wp Tryz.prog o a w K Q else E:=by
 obtain⟨i0,hi,hz0,hz1,hz2⟩:=info_parts VG;have hw:Region.wanted o (yielded ops a.tmps)=true:=by simp[Region.wanted,hg]
 rw[if_pos hw];obtain⟨v',w',hrun,r1,r2,_⟩:=run_append_own_string (P:=Tryz.prog) w base 103 9 o.type 5 i0 Tryz.underlying103 Tryz.underlying9 hi hz0 hz1 hz2 v l.length (Za l) hown s (by unfold maxLen; omega) hbd hbase
 unfold Oper.wp;simp[execOp,hop,resolve,invoke,builtin,hs,hx,hrun,Result.andThen]
 rw[strCells_eq,<- bytesV_app,show l.length+s.size=(l++s.data.toList).length by simp] at r1
 obtain⟨g,cap,rfl,hg⟩:=Zb r1 (by simp; omega)
 exact hK g _ cap w' rfl hg r1 r2
theorem Z2n (n:Int) (h0:0<=n) (h1:n<256) (w:World) (b:Nat) (hc:w.cell? ⟨b,0,none⟩=some (.int .u8 n)):
  (convert 103 9 (.slice (some ⟨b,0,none⟩) 1 1)).run Tryz.prog w=.ok (.string (str [byt n])) w:=by
 have h:=run_convert_bytes_back (P:=Tryz.prog) w 103 9 5 ⟨b,0,none⟩ 1 [byt n] Tryz.underlying103 Tryz.underlying5 Tryz.underlying9 (by
  intro j hj
  match j,hj with
  | 0,_=>simp[Addr.add,hc,byt_nat n h0 h1])
 exact h
theorem Z2m (n m:Int) (h0:0<=n) (h1:n<256) (g0:0<=m) (g1:m<256) (w:World) (b:Nat) (hc:w.cell? ⟨b,0,none⟩=some (.int .u8 n)) (hd:w.cell? ⟨b,1,none⟩=some (.int .u8 m)):
  (convert 103 9 (.slice (some ⟨b,0,none⟩) 2 2)).run Tryz.prog w=.ok (.string (str [byt n,byt m])) w:=by
 have h:=run_convert_bytes_back (P:=Tryz.prog) w 103 9 5 ⟨b,0,none⟩ 2 [byt n,byt m] Tryz.underlying103 Tryz.underlying5 Tryz.underlying9 (by
  intro j hj
  match j,hj with
  | 0,_=>simp[Addr.add,hc,byt_nat n h0 h1]
  | 1,_=>simp[Addr.add,hd,byt_nat m g0 g1])
 exact h
end Go.Proofs.YtdnacpbgodooaaaGreatDoor
namespace Go.Proofs.YtdnacpbgodooaaaGreatDoor
open Go.RowKit Go.Lib
def Zd (w:World) (a:Option Addr) (V:List Value):Prop:=∀ i v,V[i]?=some v->∃ b o,a=some ⟨b,o,none⟩∧b<w.heap.size∧w.cell? ⟨b,o+i,none⟩=some v
def Own (w:World) (b:Nat) (t:TypeId) (V:List Value):Prop:=∃ R:List Value,w.heap[b]?=some (.cells (V++R).toArray t (0,0))
section
variable {w w':World} {a:Option Addr} {V:List Value} {b:Nat} {t:TypeId}
theorem Zd.below (h:Zd w a V) (hb:Below w.heap.size w w'):Zd w' a V:=by
 intro i v hv;obtain⟨b,o,rfl,hlt,hc⟩:=h i v hv;exact⟨b,o,rfl,Nat.lt_of_lt_of_le hlt hb.size,(hb.cell (p:=⟨b,o+i,none⟩) hlt).trans hc⟩
theorem Zd.nil:Zd w a []:=by intro i v h; simp at h
theorem Own.lt (h:Own w b t V):b<w.heap.size:=by
 obtain⟨R,h⟩:=h;exact lt_of_block h
theorem Own.cell (h:Own w b t V) {i:Nat} {v:Value} (hv:V[i]?=some v):w.cell? ⟨b,i,none⟩=some v:=by
 obtain⟨R,h⟩:=h;have hi:i<V.length:=by
  rcases Nat.lt_or_ge i V.length with h1 | h1
  ·exact h1
  ·rw[List.getElem?_eq_none h1] at hv; cases hv
 simp only[World.cell?,h]
 simp[List.getElem?_append_left hi,hv]
theorem Own.free (h:Own w b t V) (i:Nat):w.frozen? ⟨b,i,none⟩=false:=by
 obtain⟨R,h⟩:=h;simp[World.frozen?,h]
theorem Own.row (h:Own w b t V):Zd w (some ⟨b,0,none⟩) V:=fun i v hv=>⟨b,0,rfl,h.lt,by rw[Nat.zero_add]; exact h.cell hv⟩
theorem Own.of_block (h:Own w b t V) (e:w'.heap[b]?=w.heap[b]?):Own w' b t V:=by
 obtain⟨R,h⟩:=h;exact⟨R,e.trans h⟩
theorem Own.below {B:Nat} (h:Own w b t V) (hb:Below B w w') (hB:b<B):Own w' b t V:=h.of_block (hb.block b hB)
theorem Own.below' (h:Own w b t V) (hb:Below w.heap.size w w'):Own w' b t V:=h.of_block (hb.block b h.lt)
theorem Own.alloc (h:Own w b t V) (o:Obj):Own (w.alloc o) b t V:=h.of_block (Below.heap_alloc w o b h.lt)
theorem Own.drew (h:Own w b t V):Own w.drew b t V:=h
theorem Own.set (h:Own w b t V) {i:Nat} (hi:i<V.length) (v:Value):Own (w.setCell ⟨b,i,none⟩ v) b t (V.set i v):=by
 obtain⟨R,h⟩:=h;refine⟨R,?_⟩
 simp only[World.setCell]
 rw[Array.getElem?_modify,if_pos rfl,h]
 simp[List.set_append_left _ _ hi]
theorem Own.other (h:Own w b t V) {p:Addr} (hp:b≠p.block) (v:Value):Own (w.setCell p v) b t V:=h.of_block (Below.heap_setCell w p v b hp)
theorem Own.made (w:World) (t:TypeId) (V:List Value):Own (w.alloc (.cells V.toArray t)) w.heap.size t V:=⟨[],by rw[List.append_nil]; exact heap_alloc_new w _⟩
theorem Own.congr (h:Own w b t V) {V':List Value} (e:V=V'):Own w b t V':=e▸h
theorem UM {n cap B:Nat} {g:Nat} (h:w.ownsRow B t 1 (.slice (some ⟨g,0,none⟩) n cap) n V):Own w g t V∧B<=g:=by
 rcases h.2 with ⟨h0,_⟩ | ⟨g',cap',cur,hv,hg,hh,hnc,hcp,hcs,htake⟩
 ·cases h0
 ·cases hv
  refine⟨⟨cur.toList.drop n,?_⟩,hg⟩
  rw[Nat.mul_one] at htake;rw[<- htake,List.take_append_drop];exact hh
end
theorem Z6 {w:World} {p:Nat} {u0 u1:Value} (v0 v1:Value) (r0:w.cell? ⟨p,0,none⟩=some u0) (r1:w.cell? ⟨p,1,none⟩=some u1):
  (w.setCell ⟨p,0,none⟩ v0).cell? ⟨p,0,none⟩=some v0∧((w.setCell ⟨p,0,none⟩ v0).setCell ⟨p,1,none⟩ v1).cell? ⟨p,1,none⟩=some v1:=by
 refine⟨World.cell?_setCell_same _ _ _ r0,World.cell?_setCell_same _ _ _ (u:=u1) ?_⟩
 rw[World.cell?_setCell_other _ _ _ _ (by simp)]
 exact r1
structure Zc (w:World) (a:Option Addr) (n:Nat) (a':Option Addr) (m:Nat) (D:Dv):Prop where
 sn:n=D.1.length
 sm:m=D.2.length
 S:Zd w a (D.1.map .string)
 L:Zd w a' (D.2.map .bool)
 nb:n<=maxLen
 mb:m<=maxLen
structure Zj (B:Nat) (w:World) (a a':Option Addr) (D:Dv):Prop where
 S:D.1=[]∨∃ b,a=some ⟨b,0,none⟩∧B<=b∧Own w b 9 (D.1.map .string)
 L:D.2=[]∨∃ b,a'=some ⟨b,0,none⟩∧B<=b∧Own w b 4 (D.2.map .bool)
 apart:D.1≠[]->D.2≠[]->∀ b b',a=some ⟨b,0,none⟩->a'=some ⟨b',0,none⟩->b≠b'
section
variable {w w':World} {a a':Option Addr} {n m B:Nat} {D:Dv}
theorem Zc.below (h:Zc w a n a' m D) (hb:Below w.heap.size w w'):Zc w' a n a' m D:=⟨h.sn,h.sm,h.S.below hb,h.L.below hb,h.nb,h.mb⟩
theorem Zc.sector (h:Zc w a n a' m D) (k:Nat) (hk:k<n):∃ b o,a=some ⟨b,o,none⟩∧b<w.heap.size∧w.cell? ⟨b,o+k,none⟩=some (.string (sec D k)):=by
 have hk':k<D.1.length:=by rw[<- h.sn]; exact hk
 exact h.S k _ (by rw[sec_lt D k hk',List.getElem?_map,List.getElem?_eq_getElem hk']; rfl)
theorem Zc.lost (h:Zc w a n a' m D) (k:Nat) (hk:k<m):∃ b o,a'=some ⟨b,o,none⟩∧b<w.heap.size∧w.cell? ⟨b,o+k,none⟩=some (.bool (los D k)):=by
 have hk':k<D.2.length:=by rw[<- h.sm]; exact hk
 exact h.L k _ (by rw[Z22 D k hk',List.getElem?_map,List.getElem?_eq_getElem hk']; rfl)
theorem Zj.at (h:Zj B w a a' D) (hn:n=D.1.length) (hm:m=D.2.length) (nb:n<=maxLen) (mb:m<=maxLen):Zc w a n a' m D:=by
 refine⟨hn,hm,?_,?_,nb,mb⟩
 ·rcases h.S with e | ⟨b,rfl,_,ho⟩
  ·rw[e]; exact Zd.nil
  ·exact ho.row
 ·rcases h.L with e | ⟨b,rfl,_,ho⟩
  ·rw[e]; exact Zd.nil
  ·exact ho.row
theorem devAt_none (w:World):Zc w none 0 none 0 nil2:=⟨rfl,rfl,Zd.nil,Zd.nil,Nat.zero_le _,Nat.zero_le _⟩
end
end Go.Proofs.YtdnacpbgodooaaaGreatDoor
namespace Go.Proofs.YtdnacpbgodooaaaGreatDoor
open Go.RowKit Go.Lib
theorem Z1Q {w:World} {base g m cap:Nat} {O:List UInt8} (h:Zz w base (.slice (some ⟨g,0,none⟩) m cap) O) (j:Nat) (hj:j<O.length):w.cell? ⟨g,j,none⟩=some (.int .u8 (bat O j).toNat):=by
 have:=World.ownsRow.cells h (g:=g) rfl j (.int .u8 (bat O j).toNat) (by simp[Za,bat_lt _ _ hj,hj])
 rw[Addr.add_lit,Nat.zero_add] at this;exact this
theorem VF {w:World} {base g m cap:Nat} {O:List UInt8} (h:Zz w base (.slice (some ⟨g,0,none⟩) m cap) O):m=O.length∧O.length<=cap∧base<=g:=by
 rcases h.2 with ⟨h0,_⟩ | ⟨g',cap',cur,h0,hb,_,hc,_⟩
 ·cases h0
 ·cases h0; exact⟨rfl,hc,hb⟩
theorem Xy {w w0 w1:World} {base B:Nat} {v:Value} {O:List UInt8} (hown:Zz w base v O) (hB:B<=base) (hs:B<=w.heap.size) (hb:Below B w0 w) (hg:w.grownBy w1 v.ownBlock):Below B w0 w1:=
 hb.grown hg hs (fun k hk=>by have:=(World.ownsRow.lt hown k hk).1; omega)
theorem ownsB_alloc {w:World} {base:Nat} {v:Value} {O:List UInt8} (h:Zz w base v O) (o:Obj):Zz (w.alloc o) base v O:=World.ownsRow.alloc h o
theorem Z1V (w:World) (c:UInt8) (t:TypeId):∀ j u,(Za [c])[j]?=some u->(w.alloc (.cells #[.int .u8 (c.toNat:Int)] t)).cell? ((⟨w.heap.size,0,none⟩:Addr).add j)=some u:=by
 have:=Wb w (c.toNat:Int) (by omega) (by have:=c.toNat_lt; omega) t
 rw[byt_of] at this;exact this
def Keeps (w w':World):Prop:=∀ (k:Nat) (cs:Array Value) (t:TypeId) (fz:Nat × Nat),t≠5->w.heap[k]?=some (.cells cs t fz)->w'.heap[k]?=some (.cells cs t fz)
section
variable {w w' w'':World}
theorem Keeps.refl (w:World):Keeps w w:=fun _ _ _ _ _ h=>h
theorem Keeps.trans (h:Keeps w w') (h':Keeps w' w''):Keeps w w'':=fun k cs t fz ht hk=>h' k cs t fz ht (h k cs t fz ht hk)
theorem Keeps.alloc (h:Keeps w w') (o:Obj):Keeps w (w'.alloc o):=fun k cs t fz ht hk=>by
 have:=h k cs t fz ht hk
 rw[Below.heap_alloc _ _ _ (lt_of_block this)]; exact this
theorem Keeps.drew (h:Keeps w w'):Keeps w w'.drew:=h
theorem YH (g:Below w.heap.size w w'):Keeps w w':=fun k cs t fz _ hk=>by rw[g.block k (lt_of_block hk)]; exact hk
theorem We {base:Nat} {v:Value} {O:List UInt8} (hown:Zz w base v O) (hg:w.grownBy w' v.ownBlock):Keeps w w':=by
 intro k cs t fz ht hk;have hlt:=lt_of_block hk;have hne:some k≠v.ownBlock:=by
  intro e
  rcases hown.2 with ⟨rfl,_⟩ | ⟨g,cap,cur,rfl,_,hh,_⟩
  ·cases e
  ·cases e
   rw[hh] at hk;cases hk
   exact ht rfl
 rw[hg.block k hlt hne]; exact hk
theorem Own.keeps {b:Nat} {t:TypeId} {V:List Value} (h:Own w b t V) (k:Keeps w w') (ht:t≠5):Own w' b t V:=by
 obtain⟨R,h⟩:=h;exact⟨R,k _ _ _ _ ht h⟩
end
theorem Jj {ops:Array Oper} {o:Oper} {a:Act} {w:World} {K:Act->World->Prop} {Q:Exit->Act->World->Prop} {E:Prop}
  (hg:o.guard=none) (sl x:Operand) (hop:o.op=Op.call { callee:=Callee.builtin Builtin.append,args:=#[sl,x],argTypes:=#[103,103] })
  (base:Nat) (v:Value) (l:List UInt8) (hs:a.eval sl=v) (hown:Zz w base v l) (ad:Addr) (c:Nat) (N:List UInt8) (hx:a.eval x=.slice (some ad) N.length c) (hnews:∀ j u,(Za N)[j]?=some u->w.cell? (ad.add j)=some u)
  (hN:0<N.length) (hbd:l.length+N.length<=140737488355328) (hbase:base<=w.heap.size)
  (hK:∀ g m cap w',Hid (m=(l++N).length)->base<=g->Zz w' base (.slice (some ⟨g,0,none⟩) m cap) (l++N)->w.grownBy w' v.ownBlock->K (a.put o.dst (.slice (some ⟨g,0,none⟩) m cap)) w'):
  if Region.wanted o (yielded ops a.tmps)=true then Oper.wp Tryz.prog o a w K Q else E:=by
 obtain⟨i0,hi,hz0,hz1,hz2⟩:=info_parts VG;have hw:Region.wanted o (yielded ops a.tmps)=true:=by simp[Region.wanted,hg]
 rw[if_pos hw];obtain⟨v',w',hrun,r1,r2,_⟩:=run_append_own (P:=Tryz.prog) w base 103 o.type 5 i0 (.int .u8 0) 1 1 Tryz.underlying103 hi hz0 hz1 hz2 rfl (by decide) v l.length (Za l) hown ad N.length c (Za N) (by rw[YM,Nat.mul_one]) hnews (YD N) (by unfold maxLen; omega) (by omega) hbase
 unfold Oper.wp;simp[execOp,hop,resolve,invoke,builtin,hs,hx,hrun,Result.andThen]
 rw[<- bytesV_app,<- List.length_append] at r1;obtain⟨g,cap,rfl,hg⟩:=Zb r1 (by simp; omega)
 exact hK g _ cap w' rfl hg r1 r2
end Go.Proofs.YtdnacpbgodooaaaGreatDoor
