import Derived.Test.YtdnacpbgodooaaaGreatDoorMem2
import Derived.BigQuiet
set_option maxHeartbeats 1600000
set_option maxRecDepth 4000
namespace Go.Proofs.YtdnacpbgodooaaaGreatDoor
open Go.RowKit Go.Lib
theorem Z25:(Tryz.prog.info? 3).map (fun i=>(i.zero,i.size,i.bytes))=some (some (.int .i64 0),1,8):=by kernel_rfl
def ZX (L:List Int):List Value:=L.map (Value.int .i64)
theorem TC (L:List Int) (k:Int):ZX (L++[k])=ZX L++[.int .i64 k]:=by simp[ZX]
theorem Zt (L:List Int):(ZX L).length=L.length:=by simp[ZX]
structure ZP (w:World) (a:Option Addr) (n:Nat) (L:List Int):Prop where
 sn:n=L.length
 nb:n<=maxLen
 R:Zd w a (ZX L)
theorem ZP.below {w w':World} {a:Option Addr} {n:Nat} {L:List Int} (h:ZP w a n L) (g:Below w.heap.size w w'):ZP w' a n L:=⟨h.sn,h.nb,h.R.below g⟩
theorem ZP.cell {w:World} {a:Option Addr} {n:Nat} {L:List Int} (h:ZP w a n L) (k:Nat) (hk:k<n):∃ b o,a=some ⟨b,o,none⟩∧b<w.heap.size∧w.cell? ⟨b,o+k,none⟩=some (.int .i64 (L[k]?.getD 0)):=by
 have hk':k<L.length:=by rw[<- h.sn]; exact hk
 exact h.R k _ (by simp[ZX,hk'])
theorem intsAt_none (w:World) (a:Option Addr):ZP w a 0 []:=⟨rfl,Nat.zero_le _,Zd.nil⟩
def Qj (w:World) (base:Nat) (v:Value) (L:List Int):Prop:=w.ownsRow base 3 1 v L.length (ZX L)
theorem ownsI_nil (w:World) (base:Nat):Qj w base (.slice none 0 0) []:=World.ownsRow_nil _ _ _ _
theorem Qi {w:World} {base:Nat} {v:Value} {L:List Int} (h:Qj w base v L) (hL:L.length<=1000):∃ a m c,v=.slice a m c∧ZP w a m L:=by
 by_cases h0:L.length=0
 ·have e:=List.eq_nil_of_length_eq_zero h0
  subst e
  rcases h.2 with ⟨e,_⟩ | ⟨g,cap,cur,e,_⟩
  ·exact⟨none,0,0,e,intsAt_none _ _⟩
  ·exact⟨_,_,_,e,intsAt_none _ _⟩
 ·obtain⟨g,cap,e,_⟩:=Zb h (by omega)
  subst e;exact⟨_,_,_,rfl,rfl,by unfold maxLen; omega,(UM h).1.row⟩
theorem Wa (L:List Int):∀ u∈ZX L,u.oneCell'=true:=by
 intro u hu;simp only[ZX,List.mem_map] at hu
 obtain⟨b,_,rfl⟩:=hu
 rfl
theorem WG (w:World) {ops:Array Oper} {rest:List Oper} {o:Oper} {a:Act} {Q:Exit->Act->World->Prop} (hgd:o.guard=none) (s x:Operand)
  (ho:o.op=.call { callee:=.builtin .append,args:=#[s,x],argTypes:=#[32,32] })
  (base:Nat) (v:Value) (L:List Int) (k:Int) (hs:a.eval s=v) (hown:Qj w base v L)
  (ad:Addr) (hx:a.eval x=.slice (some ad) 1 1) (hu:w.cell? ad=some (.int .i64 k)) (hbd:L.length<=1000) (hbase:base<=w.heap.size)
  (h:∀ g m cap w',Hid (m=(L++[k]).length)->Qj w' base (.slice (some ⟨g,0,none⟩) m cap) (L++[k])->w.grownBy w' v.ownBlock->wpList Tryz.prog ops Q rest (a.put o.dst (.slice (some ⟨g,0,none⟩) m cap)) w'):
  wpList Tryz.prog ops Q (o::rest) a w:=by
 obtain⟨i0,hi,hz0,hz1,hz2⟩:=info_parts Z25;refine wpList_append_own w hgd s x 32 ho base 3 i0 _ 1 8 Tryz.underlying32 hi hz0 hz1 hz2 rfl (by decide) v L.length (ZX L) hs hown ad 1 1 (ZX [k]) hx rfl (fun j u hj=>?_) (Wa _) (by unfold maxLen; omega) (by omega) hbase ?_
 ·match j,hj with
  | 0,hj=>simp[ZX] at hj; subst hj; exact hu
  | j+1,hj=>simp[ZX] at hj
 intro v' w' r1 r2 _;rw[show ZX [k]=[.int .i64 k] from rfl,<- TC,show L.length+1=(L++[k]).length by simp] at r1
 obtain⟨g,cap,rfl,hg⟩:=Zb r1 (by simp)
 exact h g _ cap w' rfl r1 r2
theorem UL {w w':World} {base:Nat} {v:Value} {L:List Int} (h:Qj w base v L) (g:Below w.heap.size w w'):Qj w' base v L:=by
 refine World.ownsRow.kept h ⟨g.os,g.tape,g.output,g.size,fun k hk _=>g.block k hk⟩ (row:=none) ?_
 cases v.ownBlock
 ·exact .inl rfl
 ·exact .inr (by simp)
theorem Jr (a:Option Addr) (n c:Nat) (b:Option Addr) (d:Nat) (L:List Int) (w:World) (h:ZP w a n L) (h2:ZP w b n L):
  Calls Tryz.prog 8 #[.slice a n c,.slice b n d] w fun e w'=>e=.returned (.bool true)∧Below w.heap.size w w':=by
 have H:=hid (And.intro h h2);have hn:=h.nb;unfold maxLen at hn;have n1:((n:Int) != n)=false:=bne_self_eq_false _;clear h h2;go_enter Tryz.func8,Tryz.ntmps8
 go_wp2_with fail
 clear n1;go_loopw [5] (fun i wr=>∃ k q:Nat,k<=n∧i=.int .i64 k∧wr=w.drewN q) (fun i _=>n-(intOf i).toNat)
 case atStart=>exact⟨0,0,Nat.zero_le _,rfl,rfl⟩
 case round=>
  obtain⟨k,q,hk,rfl,rfl⟩:=hrel
  by_cases hlt:k<n
  ·have hlt':(k:Int)<n:=by omega
   obtain⟨p,o,rfl,_,e1⟩:=H.out.1.cell k hlt;obtain⟨p2,o2,rfl,_,e2⟩:=H.out.2.cell k hlt;generalize L[k]?.getD 0=s at e1 e2
   clear H;go_wp2_with fail
   go_quiet (fail)
   go_wp2
   go_roundw
   case rel=>exact⟨k+1,_,by omega,by go_num,rfl⟩
   case measure=>simp[intOf]; omega
  ·have hlt':¬ (k:Int)<n:=by omega
   go_wp2
   go_ret
   exact⟨rfl,below_drewN (Below.refl _ _) q⟩
theorem Ym {w:World} {a:Addr} {v:Value} (h:w.cell? a=some v):a.spot=none∧a.block<w.heap.size:=by
 unfold World.cell? at h
 split at h
 ·rename_i c t f hc
  refine⟨?_,lt_of_block hc⟩
  by_cases hs:a.spot.isSome=true
  ·rw[if_pos hs] at h; cases h
  ·simpa using hs
 ·cases h
theorem Z3 (w:World) (p:Addr) (v:Value):(w.setCell p v).heap.size=w.heap.size:=by simp[World.setCell]
theorem Zd.keeps {w w':World} {x:Option Addr} {V:List Value} (h:Zd w x V) (hV:∀ v∈V,∀ n,v≠.int .i64 n) (hs:w.heap.size<=w'.heap.size) (hk:∀ p u,w.cell? p=some u->(∀ n,u≠.int .i64 n)->w'.cell? p=some u):Zd w' x V:=by
 intro i v hv;obtain⟨b,o,e,hlt,hc⟩:=h i v hv;exact⟨b,o,e,Nat.lt_of_lt_of_le hlt hs,hk _ _ hc (hV v (List.mem_of_getElem? hv))⟩
theorem Arr.keeps {w w':World} {b o n:Nat} {h:Nat->Hd} {A:Ar} (H:Arr w b o n h A) (hs:w.heap.size<=w'.heap.size) (hk:∀ p u,w.cell? p=some u->(∀ n,u≠.int .i64 n)->w'.cell? p=some u):Arr w' b o n h A:=by
 refine⟨H.sn,H.nb,Nat.lt_of_lt_of_le H.lt hs,fun i hi=>hk _ _ (H.c0 i hi) (fun _ e=>by cases e),fun i hi=>hk _ _ (H.c1 i hi) (fun _ e=>by cases e),fun i hi=>?_⟩
 have d:=H.dv i hi;refine⟨d.sn,d.sm,d.S.keeps ?_ hs hk,d.L.keeps ?_ hs hk,d.nb,d.mb⟩
 ·intro v hv n e
  obtain⟨s,_,rfl⟩:=List.mem_map.1 hv;cases e
 ·intro v hv n e
  obtain⟨s,_,rfl⟩:=List.mem_map.1 hv;cases e
theorem Arr.number {w:World} {b o n:Nat} {h:Nat->Hd} {A:Ar} (H:Arr w b o n h A) {p:Addr} {x:Int} (hp:w.cell? p=some (.int .i64 x)) (u:Value):Arr (w.setCell p u) b o n h A:=
 H.keeps (by rw[Z3]; exact Nat.le_refl _) (fun q v hq hv=>by
  rw[World.cell?_setCell_other _ _ _ _ (fun e=>?_)]
  ·exact hq
  ·rw[e,hq] at hp
   exact hv x (Option.some.inj hp))
theorem Arr.box {w:World} {b o n p:Nat} {h:Nat->Hd} {A:Ar} (H:Arr w b o n h A) (hp:p≠b) {a:Option Addr} {k c:Nat} (hc:w.cell? ⟨p,0,none⟩=some (.slice a k c)) (v:Value):Arr (w.setCell ⟨p,0,none⟩ v) b o n h A:=by
 refine⟨H.sn,H.nb,by rw[Z3]; exact H.lt,fun i hi=>?_,fun i hi=>?_,fun i hi=>(H.dv i hi).slices hc v⟩
 ·rw[World.cell?_setCell_other _ _ _ _ (fun e=>hp (congrArg Addr.block e))]; exact H.c0 i hi
 ·rw[World.cell?_setCell_other _ _ _ _ (fun e=>hp (congrArg Addr.block e))]; exact H.c1 i hi
end Go.Proofs.YtdnacpbgodooaaaGreatDoor
