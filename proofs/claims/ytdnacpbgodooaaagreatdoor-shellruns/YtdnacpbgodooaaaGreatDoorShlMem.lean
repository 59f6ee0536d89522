import Derived.Test.YtdnacpbgodooaaaGreatDoorFilB
import Derived.Test.YtdnacpbgodooaaaGreatDoorTopP
import Derived.Test.YtdnacpbgodooaaaGreatDoorInts
set_option maxHeartbeats 1600000
set_option maxRecDepth 4000
namespace Go.Proofs.YtdnacpbgodooaaaGreatDoor
open Go.RowKit Go.Lib
theorem Z5h {α:Type} (f:α->List Value) (k:Nat) (hk:∀ x,(f x).length=k) (L:List α):(L.flatMap f).length=L.length*k:=by
 induction L with
 | nil=>simp
 | cons x L ih=>rw[List.flatMap_cons,List.length_append,ih,hk,List.length_cons,Nat.add_mul,Nat.one_mul,Nat.add_comm]
theorem Z5i {α:Type} (f:α->List Value) (k:Nat) (hk:∀ x,(f x).length=k) (L:List α) (i j:Nat) (q:α) (hi:L[i]?=some q) (hj:j<k):(L.flatMap f)[i*k+j]?=(f q)[j]?:=by
 induction L generalizing i with
 | nil=>simp at hi
 | cons x L ih=>
  rw[List.flatMap_cons];cases i with
  | zero=>
   simp only[List.getElem?_cons_zero,Option.some.injEq] at hi
   subst hi;rw[Nat.zero_mul,Nat.zero_add,List.getElem?_append_left (by rw[hk]; exact hj)]
  | succ i=>
   rw[List.getElem?_append_right (by rw[hk,Nat.add_mul]; omega),hk,show (i+1)*k+j-k=i*k+j by rw[Nat.add_mul]; omega]
   exact ih i (by simpa using hi)
theorem Z8b {α:Type} (f:α->List Value) (L:List α) (h:∀ x∈L,∀ v∈f x,v.oneCell'=true):∀ v∈L.flatMap f,v.oneCell'=true:=by
 intro v hv;obtain⟨x,hx,hv⟩:=List.mem_flatMap.1 hv;exact h x hx v hv
def Off (row:Option Nat) (a:Option Addr) (n:Nat):Prop:=0<n->∀ b o s,a=some ⟨b,o,s⟩->some b≠row
theorem Zd.grown {w w':World} {a:Option Addr} {V:List Value} {row:Option Nat} (h:Zd w a V) (ho:Off row a V.length) (g:w.grownBy w' row):Zd w' a V:=by
 intro i v hv;obtain⟨b,o,e,hlt,hc⟩:=h i v hv;have hl:i<V.length:=by
  rcases Nat.lt_or_ge i V.length with h1 | h1
  ·exact h1
  ·rw[List.getElem?_eq_none h1] at hv; cases hv
 refine⟨b,o,e,Nat.lt_of_lt_of_le hlt g.size,(World.cell?_of_block (a:=⟨b,o+i,none⟩) (g.block b hlt ?_)).trans hc⟩
 exact ho (by omega) b o none e
theorem NewS.off {B:Nat} {a:Option Addr} {n:Nat} (h:NewS B a n) {row:Option Nat} (hr:∀ g,row=some g->g<B):Off row a n:=by
 intro h0 b o s e e2
 have:=h h0 b o s e
 have:=hr b e2.symm
 omega
theorem Z4x {w:World} {a:Option Addr} {V:List Value} (h:Zd w a V) {g:Nat} (hg:w.heap.size<=g):Off (some g) a V.length:=by
 intro h0 b o s e e2;obtain⟨b2,o2,e3,hlt,_⟩:=h 0 (V[0]) (by simp[h0])
 rw[e] at e3;cases e3
 cases e2
 omega
structure Hs where
 a:Option Addr
 n:Nat
 c:Nat
def nilS:Hs:=⟨none,0,0⟩
structure Ax where
 x:Ac
 f:Hs
def axC (q:Ax):List Value:=[.int .i64 q.x.kind,.slice q.f.a q.f.n q.f.c,.string q.x.name,.int .i64 q.x.d,.int .i64 q.x.n,.int .i64 q.x.at_,.int .i64 q.x.by_]
def axA (q:Ax):Value:=.agg #[.int .i64 q.x.kind,.slice q.f.a q.f.n q.f.c,.string q.x.name,.int .i64 q.x.d,.int .i64 q.x.n,.int .i64 q.x.at_,.int .i64 q.x.by_]
def axV (L:List Ax):List Value:=L.flatMap axC
def acs (L:List Ax):List Ac:=L.map fun q=>q.x
theorem Z1v (q:Ax):(axC q).length=7:=rfl
theorem Z5I (L:List Ax):(axV L).length=L.length*7:=Z5h axC 7 Z1v L
theorem VO (L:List Ax):(acs L).length=L.length:=List.length_map _
def AxOk (w:World) (q:Ax):Prop:=(q.f.n<=q.f.c∧ZV w q.f.a q.f.n q.x.files)∧q.x.name.size<=maxLen
structure WD (w:World) (a:Option Addr) (n:Nat) (L:List Ax):Prop where
 sn:n=L.length
 nb:n<=maxLen
 row:Zd w a (axV L)
 ok:∀ q∈L,AxOk w q
section
variable {w w':World} {a:Option Addr} {n:Nat} {L:List Ax} {q:Ax}
theorem AxOk.below (h:AxOk w q) (g:Below w.heap.size w w'):AxOk w' q:=⟨⟨h.1.1,h.1.2.below g⟩,h.2⟩
theorem WD.below (h:WD w a n L) (g:Below w.heap.size w w'):WD w' a n L:=⟨h.sn,h.nb,h.row.below g,fun q hq=>(h.ok q hq).below g⟩
theorem actAt_none (w:World) (a:Option Addr):WD w a 0 []:=⟨rfl,Nat.zero_le _,Zd.nil,fun _ h=>by cases h⟩
theorem WD.one (h:WD w a n L) (k:Nat) (hk:k<n):∃ q b o,L[k]?=some q∧a=some ⟨b,o,none⟩∧b<w.heap.size∧AxOk w q ∧
  (w.cell? ⟨b,o+k*7,none⟩=some (.int .i64 q.x.kind)∧w.cell? ⟨b,o+k*7+1,none⟩=some (.slice q.f.a q.f.n q.f.c)∧w.cell? ⟨b,o+k*7+2,none⟩=some (.string q.x.name)∧w.cell? ⟨b,o+k*7+3,none⟩=some (.int .i64 q.x.d) ∧
   w.cell? ⟨b,o+k*7+4,none⟩=some (.int .i64 q.x.n)∧w.cell? ⟨b,o+k*7+5,none⟩=some (.int .i64 q.x.at_)∧w.cell? ⟨b,o+k*7+6,none⟩=some (.int .i64 q.x.by_)):=by
 have hk':k<L.length:=by rw[<- h.sn]; exact hk
 obtain⟨q,hq⟩:∃ q,L[k]?=some q:=⟨_,List.getElem?_eq_getElem hk'⟩
 have hr:∀ j v,(axC q)[j]?=some v->j<7->∃ b o,a=some ⟨b,o,none⟩∧b<w.heap.size∧w.cell? ⟨b,o+(k*7+j),none⟩=some v:=fun j v hv hj=>h.row (k*7+j) v (by rw[axV,Z5i axC 7 Z1v L k j q hq hj]; exact hv)
 obtain⟨b,o,e,hb,c0⟩:=hr 0 _ rfl (by omega)
 have hs:∀ j v,(axC q)[j]?=some v->j<7->w.cell? ⟨b,o+(k*7+j),none⟩=some v:=fun j v hv hj=>by
  obtain⟨b2,o2,e2,_,c⟩:=hr j v hv hj;rw[e] at e2;cases e2
  exact c
 exact⟨q,b,o,hq,e,hb,h.ok q (List.mem_of_getElem? hq),c0,hs 1 _ rfl (by omega),hs 2 _ rfl (by omega),hs 3 _ rfl (by omega),hs 4 _ rfl (by omega),hs 5 _ rfl (by omega),hs 6 _ rfl (by omega)⟩
end
theorem Z4R:(Tryz.prog.info? 46).map (fun i=>(i.zero,i.size,i.bytes))=some (some (.agg #[.int .i64 0,.slice none 0 0,.string ⟨#[]⟩,.int .i64 0,.int .i64 0,.int .i64 0,.int .i64 0]),7,80):=by kernel_rfl
section
variable {w w':World} {base:Nat} {a:Option Addr} {n c:Nat} {v:Value} {L:List Ax}
theorem ZV.grown {F:List Fi} {row:Option Nat} (h:ZV w a n F) (ho:Off row a n) (g:w.grownBy w' row):ZV w' a n F:=by
 refine⟨h.sn,h.nb,h.nm,fun i hi=>?_⟩
 obtain⟨b,o,e,hb,c0,c1⟩:=h.c i hi;have hk:=g.block b hb (ho (by omega) b o none e)
 exact⟨b,o,e,Nat.lt_of_lt_of_le hb g.size,(World.cell?_of_block (a:=⟨b,o+i*2,none⟩) hk).trans c0,(World.cell?_of_block (a:=⟨b,o+i*2+1,none⟩) hk).trans c1⟩
theorem ZV.off {F:List Fi} (h:ZV w a n F) {g:Nat} (hg:w.heap.size<=g):Off (some g) a n:=by
 intro h0 b o s e e2;obtain⟨b2,o2,e3,hlt,_⟩:=h.c 0 h0;rw[e] at e3;cases e3
 cases e2
 omega
theorem AxOk.grown {q:Ax} {row:Option Nat} (h:AxOk w q) (ho:Off row q.f.a q.f.n) (g:w.grownBy w' row):AxOk w' q:=⟨⟨h.1.1,h.1.2.grown ho g⟩,h.2⟩
theorem Z4e {e:TypeId} {size k:Nat} {xs:List Value} (h:w.ownsRow base e size v k xs) (g:Below w.heap.size w w'):w'.ownsRow base e size v k xs:=by
 refine World.ownsRow.kept h ⟨g.os,g.tape,g.output,g.size,fun k hk _=>g.block k hk⟩ (row:=none) ?_
 cases v.ownBlock
 ·exact .inl rfl
 ·exact .inr (by simp)
end
end Go.Proofs.YtdnacpbgodooaaaGreatDoor
namespace Go.Proofs.YtdnacpbgodooaaaGreatDoor
open Go.RowKit Go.Lib
structure Nx where
 r:An
 f:Hs
 g:Hs
def nxC (q:Nx):List Value:=[.int .i64 q.r.code,.string (str q.r.data),.slice q.f.a q.f.n q.f.c,.int .i64 q.r.count,.slice q.g.a q.g.n q.g.c]
def nxA (q:Nx):Value:=.agg #[.int .i64 q.r.code,.string (str q.r.data),.slice q.f.a q.f.n q.f.c,.int .i64 q.r.count,.slice q.g.a q.g.n q.g.c]
def nxV (L:List Nx):List Value:=L.flatMap nxC
def ans (L:List Nx):List An:=L.map fun q=>q.r
theorem Z4A (q:Nx):(nxC q).length=5:=rfl
theorem nxV_len (L:List Nx):(nxV L).length=L.length*5:=Z5h nxC 5 Z4A L
theorem Z7N (L M:List Nx):nxV (L++M)=nxV L++nxV M:=List.flatMap_append
theorem Z7M (q:Nx):nxV [q]=nxC q:=by simp[nxV]
theorem Z7a (L:List Nx) (q:Nx):ans (L++[q])=ans L++[q.r]:=List.map_append
theorem Tz (L:List Nx):∀ v∈nxV L,v.oneCell'=true:=by
 refine Z8b nxC L fun q _ v hv=>?_
 simp only[nxC,List.mem_cons,List.not_mem_nil,or_false] at hv
 rcases hv with rfl | rfl | rfl | rfl | rfl <;> rfl
structure NxOk (w:World) (q:Nx):Prop where
 S:Zd w q.f.a (q.r.names.map .string)
 sn:q.f.n=q.r.names.length
 sb:q.f.n<=maxLen
 G:ZP w q.g.a q.g.n (ups q.r.gone)
def YO (B:Nat) (q:Nx):Prop:=NewS B q.f.a q.f.n∧NewS B q.g.a q.g.n
def VP (row:Option Nat) (q:Nx):Prop:=Off row q.f.a q.f.n∧Off row q.g.a q.g.n
structure Z1A (w:World) (a:Option Addr) (n:Nat) (L:List Nx):Prop where
 sn:n=L.length
 nb:n<=maxLen
 row:Zd w a (nxV L)
 ok:∀ q∈L,NxOk w q
section
variable {w w':World} {a:Option Addr} {n:Nat} {L:List Nx} {q:Nx} {row:Option Nat}
theorem NxOk.below (h:NxOk w q) (g:Below w.heap.size w w'):NxOk w' q:=⟨h.S.below g,h.sn,h.sb,h.G.below g⟩
theorem NxOk.grown (h:NxOk w q) (ho:VP row q) (g:w.grownBy w' row):NxOk w' q:=by
 refine⟨h.S.grown ?_ g,h.sn,h.sb,⟨h.G.sn,h.G.nb,h.G.R.grown ?_ g⟩⟩
 ·rw[List.length_map,<- h.sn]; exact ho.1
 ·rw[Zt,<- h.G.sn]; exact ho.2
theorem NxOk.off (h:NxOk w q) {g:Nat} (hg:w.heap.size<=g):VP (some g) q:=by
 have h1:=Z4x h.S hg;have h2:=Z4x h.G.R hg;rw[List.length_map,<- h.sn] at h1;rw[Zt,<- h.G.sn] at h2;exact⟨h1,h2⟩
theorem YO.off {B:Nat} (h:YO B q) (hr:∀ g,row=some g->g<B):VP row q:=⟨h.1.off hr,h.2.off hr⟩
theorem YO.less {B B':Nat} (h:YO B q) (hb:B'<=B):YO B' q:=⟨h.1.less hb,h.2.less hb⟩
theorem Z1A.below (h:Z1A w a n L) (g:Below w.heap.size w w'):Z1A w' a n L:=⟨h.sn,h.nb,h.row.below g,fun q hq=>(h.ok q hq).below g⟩
theorem ansAt_none (w:World) (a:Option Addr):Z1A w a 0 []:=⟨rfl,Nat.zero_le _,Zd.nil,fun _ h=>by cases h⟩
theorem Z1A.one (h:Z1A w a n L) (k:Nat) (hk:k<n):∃ q b o,L[k]?=some q∧a=some ⟨b,o,none⟩∧b<w.heap.size∧NxOk w q ∧
  (w.cell? ⟨b,o+k*5,none⟩=some (.int .i64 q.r.code)∧w.cell? ⟨b,o+k*5+1,none⟩=some (.string (str q.r.data))∧w.cell? ⟨b,o+k*5+2,none⟩=some (.slice q.f.a q.f.n q.f.c)∧w.cell? ⟨b,o+k*5+3,none⟩=some (.int .i64 q.r.count)∧w.cell? ⟨b,o+k*5+4,none⟩=some (.slice q.g.a q.g.n q.g.c)):=by
 have hk':k<L.length:=by rw[<- h.sn]; exact hk
 obtain⟨q,hq⟩:∃ q,L[k]?=some q:=⟨_,List.getElem?_eq_getElem hk'⟩
 have hr:∀ j v,(nxC q)[j]?=some v->j<5->∃ b o,a=some ⟨b,o,none⟩∧b<w.heap.size∧w.cell? ⟨b,o+(k*5+j),none⟩=some v:=fun j v hv hj=>h.row (k*5+j) v (by rw[nxV,Z5i nxC 5 Z4A L k j q hq hj]; exact hv)
 obtain⟨b,o,e,hb,c0⟩:=hr 0 _ rfl (by omega)
 have hs:∀ j v,(nxC q)[j]?=some v->j<5->w.cell? ⟨b,o+(k*5+j),none⟩=some v:=fun j v hv hj=>by
  obtain⟨b2,o2,e2,_,c⟩:=hr j v hv hj;rw[e] at e2;cases e2
  exact c
 exact⟨q,b,o,hq,e,hb,h.ok q (List.mem_of_getElem? hq),c0,hs 1 _ rfl (by omega),hs 2 _ rfl (by omega),hs 3 _ rfl (by omega),hs 4 _ rfl (by omega)⟩
end
def Zr (v:Value):Prop:=v=.int .i64 0∨v=.string ⟨#[]⟩∨v=.slice none 0 0
structure WC (w w':World):Prop where
 size:w.heap.size<=w'.heap.size
 cell:∀ p v,w.cell? p=some v->¬ Zr v->w'.cell? p=some v
theorem Zd.keepz {w w':World} {x:Option Addr} {V:List Value} (h:Zd w x V) (hV:∀ v∈V,¬ Zr v) (k:WC w w'):Zd w' x V:=by
 intro i v hv;obtain⟨b,o,e,hlt,hc⟩:=h i v hv;exact⟨b,o,e,Nat.lt_of_lt_of_le hlt k.size,k.cell _ _ hc (hV v (List.mem_of_getElem? hv))⟩
theorem Z5.keepz {w w':World} {a:Option Addr} {n:Nat} {A:Ar} (h:Z5 w a n A) (hm:Z2 A=true) (k:WC w w'):Z5 w' a n A:=by
 have hh:=(arMay_iff A).1 hm
 rcases h with h | ⟨b,o,hd,e,H⟩
 ·exact .inl h
 ·refine .inr ⟨b,o,hd,e,H.sn,H.nb,Nat.lt_of_lt_of_le H.lt k.size,fun i hi=>k.cell _ _ (H.c0 i hi) ?_,fun i hi=>k.cell _ _ (H.c1 i hi) ?_,fun i hi=>?_⟩
  all_goals
   have d:=H.dv i hi;have hv:=(ZG _).1 (hh.2.1 _ (WU A i (by rw[<- H.sn]; exact hi)))
  ·rintro (e | e | e)
   ·cases e
   ·cases e
   ·injection e with _ e2 _
    have:=d.sn
    omega
  ·rintro (e | e | e)
   ·cases e
   ·cases e
   ·injection e with _ e2 _
    have:=d.sm
    omega
  ·refine⟨d.sn,d.sm,d.S.keepz ?_ k,d.L.keepz ?_ k,d.nb,d.mb⟩
   ·intro v hv2
    obtain⟨s,hs,rfl⟩:=List.mem_map.1 hv2;rintro (e | e | e) <;> cases e
    have:=hv.2 _ hs
    cases this
   ·intro v hv2
    obtain⟨s,hs,rfl⟩:=List.mem_map.1 hv2;rintro (e | e | e) <;> cases e
theorem Z6B:(Tryz.prog.info? 34).map (fun i=>(i.zero,i.size,i.bytes))=some (some (.agg #[.int .i64 0,.string ⟨#[]⟩,.slice none 0 0,.int .i64 0,.slice none 0 0]),5,80):=by kernel_rfl
theorem Z3J (n:Nat):∀ u∈(Builtin.zeroCells (Value.agg #[.int .i64 0,.string ⟨#[]⟩,.slice none 0 0,.int .i64 0,.slice none 0 0]).cells n).toList,Zr u:=by
 intro u hu;have hz:(Value.agg #[.int .i64 0,.string ⟨#[]⟩,.slice none 0 0,.int .i64 0,.slice none 0 0]).cells=#[.int .i64 0,.string ⟨#[]⟩,.slice none 0 0,.int .i64 0,.slice none 0 0]:=rfl;rw[hz] at hu;simp[Builtin.zeroCells] at hu
 obtain⟨j,_,hj⟩:=hu
 have:j % 5=0∨j % 5=1∨j % 5=2∨j % 5=3∨j % 5=4:=by omega
 rcases this with e | e | e | e | e <;> simp[e] at hj <;> subst hj
 ·exact .inl rfl
 ·exact .inr (.inl rfl)
 ·exact .inr (.inr rfl)
 ·exact .inl rfl
 ·exact .inr (.inr rfl)
structure AnsI (w:World) (base:Nat) (v:Value) (L:List Nx):Prop where
 own:w.ownsRow base 34 5 v L.length (nxV L)
 spare:∀ g,v.ownBlock=some g->∀ o u,L.length*5<=o->w.cell? ⟨g,o,none⟩=some u->Zr u
 ok:∀ q∈L,NxOk w q∧VP v.ownBlock q∧YO base q
theorem ansI_nil (w:World) (base:Nat):AnsI w base (.slice none 0 0) []:=⟨World.ownsRow_nil _ _ _ _,fun _ h=>(by cases h),fun _ h=>(by cases h)⟩
section
variable {w w':World} {base:Nat} {a:Option Addr} {n c:Nat} {v:Value} {L:List Nx}
theorem AnsI.below (h:AnsI w base v L) (g:Below w.heap.size w w'):AnsI w' base v L:=
 ⟨Z4e h.own g,fun b hb o u ho hc=>h.spare b hb o u ho ((World.cell?_of_block (a:=⟨b,o,none⟩) (g.block b (World.ownsRow.lt h.own b hb).2)).symm.trans hc),fun q hq=>⟨(h.ok q hq).1.below g,(h.ok q hq).2⟩⟩
theorem AnsI.chg {p:Nat} (h:AnsI w base v L) (g:Chg (fun k=>k=p) w w') (hp:p<base):AnsI w' base v L:=by
 have gr:w.grownBy w' (some p):=⟨g.os,g.tape,g.output,g.size,fun k hk hne=>g.block k hk (fun e=>hne (by rw[e]))⟩
 refine⟨g.row h.own (fun b hb e=>by omega),fun b hb o u ho hc=>?_,fun q hq=>⟨(h.ok q hq).1.grown ((h.ok q hq).2.2.off (fun b e=>by cases e; exact hp)) gr,(h.ok q hq).2⟩⟩
 obtain⟨h1,h2⟩:=World.ownsRow.lt h.own b hb;exact h.spare b hb o u ho ((World.cell?_of_block (a:=⟨b,o,none⟩) (g.block b h2 (by omega))).symm.trans hc)
theorem AnsI.at (h:AnsI w base (.slice a n c) L) (hL:L.length<=maxLen):n<=c∧Z1A w a n L:=by
 rcases h.own.2 with ⟨e,hn⟩ | ⟨g,cap,cur,e,hb,hh,hnc,hcm,hcs,ht⟩
 ·cases e
  have:L=[]:=List.eq_nil_of_length_eq_zero hn
  subst this;exact⟨Nat.le_refl _,ansAt_none _ _⟩
 ·cases e
  refine⟨hnc,rfl,hL,?_,fun q hq=>(h.ok q hq).1⟩
  have ho:Own w g 34 (nxV L):=⟨cur.toList.drop (L.length*5),by rw[<- ht,List.take_append_drop]; exact hh⟩
  exact ho.row
theorem T7 {w:World} {g o:Nat} {cs:Array Value} {t:TypeId} {fr:Nat × Nat} (h:w.heap[g]?=some (.cells cs t fr)):w.cell? ⟨g,o,none⟩=cs[o]?:=by simp only[World.cell?,h]; simp
theorem Z0G (ty:TypeId) (H:AnsI w base v L) (q:Nx) (hq:NxOk w q∧VP v.ownBlock q∧YO base q) (ad:Addr) (hu:∀ j u,(nxC q)[j]?=some u->w.cell? (ad.add j)=some u) (hbd:L.length<=1000) (hbase:base<=w.heap.size):
  ∃ g cap w',(Builtin.append_ #[23,23] ty #[v,.slice (some ad) 1 1]).run Tryz.prog w=.ok (.slice (some ⟨g,0,none⟩) (L++[q]).length cap) w'∧AnsI w' base (.slice (some ⟨g,0,none⟩) (L++[q]).length cap) (L++[q])∧w.grownBy w' v.ownBlock∧WC w w':=by
 obtain⟨i0,hi,hz0,hz1,hz2⟩:=info_parts Z6B;have hnews:∀ j u,(nxV [q])[j]?=some u->w.cell? (ad.add j)=some u:=by rw[Z7M]; exact hu
 obtain⟨v',w',hr,ho,hg,_⟩:=run_append_own (P:=Tryz.prog) w base 23 ty 34 i0 _ 5 80 Tryz.underlying23 hi hz0 hz1 hz2 rfl (by decide) v L.length (nxV L) H.own ad 1 1 (nxV [q]) (nxV_len [q]) hnews (Tz _) (by unfold maxLen; omega) (by omega) hbase
 have ho':w'.ownsRow base 34 5 v' (L++[q]).length (nxV (L++[q])):=by rw[Z7N,List.length_append]; exact ho
 have fin:(∀ g,v'.ownBlock=some g->∀ o u,(L++[q]).length*5<=o->w'.cell? ⟨g,o,none⟩=some u->Zr u)∧WC w w'∧(v'.ownBlock=v.ownBlock∨v'.ownBlock=some w.heap.size):=by
  have hl1:(L++[q]).length=L.length+1:=by simp
  rcases H.own.2 with ⟨rfl,h0⟩ | ⟨g,cap,cur,rfl,hbg,hh,hnc,hcm,hcs,htake⟩
  ·have hL:L=[]:=List.eq_nil_of_length_eq_zero h0
   have hr2:=run_append_nil (P:=Tryz.prog) w 23 ty 34 i0 _ Tryz.underlying23 hi hz0 ad 1 1 (nxV [q]) (by rw[hz1]; exact nxV_len [q]) hnews (by omega) (by omega) (by rw[hz2]; omega)
   rw[hr] at hr2;cases hr2
   refine⟨fun g hgb o u hou hc=>?_,⟨by simp,fun p v hp _=>((Below.refl w.heap.size w).drew.alloc (Nat.le_refl _) _).cell (Ym hp).2 |>.trans hp⟩,.inr rfl⟩
   obtain rfl:w.heap.size=g:=by simpa[Value.ownBlock] using hgb
   rw[T7 (show (w.drew.alloc _).heap[w.heap.size]?=some _ from heap_alloc_new w.drew _)] at hc
   rw[<- Array.getElem?_toList,Array.toList_append,List.getElem?_append_right (by rw[List.toList_toArray,nxV_len]; simp only[List.length_singleton]; omega)] at hc
   exact Z3J _ u (List.mem_of_getElem? hc)
  ·by_cases hroom:L.length+1<=cap
   ·have hr2:=run_append_room (P:=Tryz.prog) w 23 ty 34 i0 Tryz.underlying23 hi g L.length cap cur hh ad 1 1 (nxV [q]) (by rw[hz1]; exact nxV_len [q]) hnews (Tz _) hroom (by rw[hz1,hcs,nxV_len]; simp only[List.length_singleton]; omega)
    rw[hr] at hr2;cases hr2
    have hsp:=H.spare g rfl;have hcur:∀ o,w.cell? ⟨g,o,none⟩=cur[o]?:=fun o=>T7 hh
    have hnl:(nxV [q]).length=5:=nxV_len [q];have hcl:cur.toList.length=cap*5:=(Array.length_toList).trans hcs;have hlo:∀ o,o<L.length*5->(cur.toList.take (L.length*i0.size)++nxV [q]++cur.toList.drop (L.length*i0.size+(nxV [q]).length)).toArray[o]?=cur[o]?:=fun o ho=>by
     rw[List.getElem?_toArray,List.append_assoc,List.getElem?_append_left (by rw[List.length_take,hz1,hcl]; omega),List.getElem?_take,hz1,if_pos ho,Array.getElem?_toList]
    have hhi:∀ o,L.length*5+5<=o->(cur.toList.take (L.length*i0.size)++nxV [q]++cur.toList.drop (L.length*i0.size+(nxV [q]).length)).toArray[o]?=cur[o]?:=fun o ho=>by
     have hlen:(cur.toList.take (L.length*i0.size)++nxV [q]).length=L.length*5+5:=by rw[List.length_append,List.length_take,hz1,hcl,hnl]; omega
     rw[List.getElem?_toArray,List.getElem?_append_right (by rw[hlen]; exact ho),hlen,List.getElem?_drop,hz1,hnl,show L.length*5+5+(o-(L.length*5+5))=o by omega,Array.getElem?_toList]
    refine⟨fun g' hgb o u hou hc=>?_,⟨by simp,fun p u hp hz=>?_⟩,.inl rfl⟩
    ·obtain rfl:g=g':=by simpa[Value.ownBlock] using hgb
     rw[T7 (setRow_heap w g cur _ _ _ hh),hhi o (by omega),<- hcur] at hc
     exact hsp o u (by omega) hc
    ·obtain⟨hs,hlt⟩:=Ym hp
     obtain⟨b,o,s⟩:=p;cases hs
     by_cases e:b=g
     ·subst e
      rw[T7 (setRow_heap w b cur _ _ _ hh)]
      rcases Nat.lt_or_ge o (L.length*5) with h1 | h1
      ·rw[hlo o h1,<- hcur]; exact hp
      ·exact absurd (hsp o u h1 hp) hz
     ·exact (World.cell?_of_block (a:=⟨b,o,none⟩) (setRow_other w g b _ (fun x=>e x))).trans hp
   ·have holds:∀ j u,(nxV L)[j]?=some u->w.cell? ((⟨g,0,none⟩:Addr).add j)=some u:=World.ownsRow.cells H.own (g:=g) rfl
    have hr2:=run_append_grow (P:=Tryz.prog) w 23 ty 34 i0 _ Tryz.underlying23 hi hz0 ⟨g,0,none⟩ L.length cap (nxV L) (by rw[nxV_len,hz1]) holds ad 1 1 (nxV [q]) (by rw[hz1]; exact nxV_len [q]) hnews (by omega) (by omega) (growslice_fits (by omega) (by rw[hz2]; omega))
    rw[hr] at hr2;cases hr2
    refine⟨fun g hgb o u hou hc=>?_,⟨by simp,fun p v hp _=>((Below.refl w.heap.size w).drew.alloc (Nat.le_refl _) _).cell (Ym hp).2 |>.trans hp⟩,.inr rfl⟩
    obtain rfl:w.heap.size=g:=by simpa[Value.ownBlock] using hgb
    rw[T7 (show (w.drew.alloc _).heap[w.heap.size]?=some _ from heap_alloc_new w.drew _)] at hc
    rw[<- Array.getElem?_toList,Array.toList_append,List.getElem?_append_right (by rw[Array.toList_append,List.length_append,List.toList_toArray,List.toList_toArray,nxV_len,nxV_len]; simp only[List.length_singleton]; omega)] at hc
    exact Z3J _ u (List.mem_of_getElem? hc)
 obtain⟨g,cap,rfl,hgb⟩:=Zb ho' (by rw[List.length_append]; simp)
 have hoff:∀ x,NxOk w x->VP v.ownBlock x->VP (Value.ownBlock (.slice (some ⟨g,0,none⟩) (L++[q]).length cap)) x:=fun x h1 h2=>by
  rcases fin.2.2 with e | e
  ·rw[e]; exact h2
  ·rw[e]; exact h1.off (Nat.le_refl _)
 refine⟨g,cap,w',hr,⟨ho',fin.1,fun x hx=>?_⟩,hg,fin.2.1⟩
 rcases List.mem_append.1 hx with h | h
 ·obtain⟨h1,h2,h3⟩:=H.ok x h
  exact⟨h1.grown h2 hg,hoff x h1 h2,h3⟩
 ·rw[List.mem_singleton] at h
  subst h;exact⟨hq.1.grown hq.2.1 hg,hoff x hq.1 hq.2.1,hq.2.2⟩
theorem WE (w:World) {ops:Array Oper} {rest:List Oper} {o:Oper} {a:Act} {Q:Exit->Act->World->Prop} (hgd:o.guard=none) (s x:Operand)
  (ho:o.op=.call { callee:=.builtin .append,args:=#[s,x],argTypes:=#[23,23] })
  (base:Nat) (v:Value) (L:List Nx) (q:Nx) (hs:a.eval s=v) (H:AnsI w base v L) (hq:NxOk w q∧VP v.ownBlock q∧YO base q)
  (ad:Addr) (hx:a.eval x=.slice (some ad) 1 1) (hu:∀ j u,(nxC q)[j]?=some u->w.cell? (ad.add j)=some u) (hbd:L.length<=1000) (hbase:base<=w.heap.size)
  (h:∀ g m cap w',Hid (m=(L++[q]).length)->AnsI w' base (.slice (some ⟨g,0,none⟩) m cap) (L++[q])->w.grownBy w' v.ownBlock->WC w w'->wpList Tryz.prog ops Q rest (a.put o.dst (.slice (some ⟨g,0,none⟩) m cap)) w'):
  wpList Tryz.prog ops Q (o::rest) a w:=by
 obtain⟨g,cap,w',hr,h1,h2,h3⟩:=Z0G (ty:=o.type) H q hq ad hu hbd hbase;refine wpList_plain hgd fun K hK=>?_
 unfold Oper.wp execOp;simp only[ho,resolve,invoke,builtin,Sem.run_bind,Sem.run_pure,Result.andThen_ok,List.map_toArray,List.map_cons,List.map_nil,hs,hx,hr]
 exact hK _ _ (h g _ cap w' rfl h1 h2 h3)
end
end Go.Proofs.YtdnacpbgodooaaaGreatDoor
namespace Go.Proofs.YtdnacpbgodooaaaGreatDoor
open Go.RowKit Go.Lib
section
variable {w w' w'':World} {b o n:Nat} {h:Nat->Hd} {A:Ar}
theorem Arr.keepz (H:Arr w b o n h A) (hm:Z2 A=true) (k:WC w w'):Arr w' b o n h A:=by
 have hh:=(arMay_iff A).1 hm;refine⟨H.sn,H.nb,Nat.lt_of_lt_of_le H.lt k.size,fun i hi=>k.cell _ _ (H.c0 i hi) ?_,fun i hi=>k.cell _ _ (H.c1 i hi) ?_,fun i hi=>?_⟩
 all_goals
  have d:=H.dv i hi;have hv:=(ZG _).1 (hh.2.1 _ (WU A i (by rw[<- H.sn]; exact hi)))
 ·rintro (e | e | e)
  ·cases e
  ·cases e
  ·injection e with _ e2 _
   have:=d.sn
   omega
 ·rintro (e | e | e)
  ·cases e
  ·cases e
  ·injection e with _ e2 _
   have:=d.sm
   omega
 ·refine⟨d.sn,d.sm,d.S.keepz ?_ k,d.L.keepz ?_ k,d.nb,d.mb⟩
  ·intro v hv2
   obtain⟨s,hs,rfl⟩:=List.mem_map.1 hv2;rintro (e | e | e) <;> cases e
   have:=hv.2 _ hs
   cases this
  ·intro v hv2
   obtain⟨s,hs,rfl⟩:=List.mem_map.1 hv2;rintro (e | e | e) <;> cases e
theorem WC.trans (h:WC w w') (g:WC w' w''):WC w w'':=⟨Nat.le_trans h.size g.size,fun p v hp hz=>g.cell p v (h.cell p v hp hz) hz⟩
theorem Zv {p:Addr} {v:Value} (hc:w.cell? p=some v) (hz:Zr v) (u:Value):WC w (w.setCell p u):=by
 refine⟨by rw[Z3]; exact Nat.le_refl _,fun q x hq hx=>?_⟩
 rw[World.cell?_setCell_other _ _ _ _ (fun e=>?_)]
 ·exact hq
 ·rw[e,hq] at hc
  cases hc
  exact hx hz
end
theorem Xw (w:World) (p:Addr) (v:Value):w.grownBy (w.setCell p v) (some p.block):=⟨rfl,rfl,rfl,by rw[Z3]; exact Nat.le_refl _,fun k _ hk=>Below.heap_setCell w p v k (fun e=>hk (by rw[e]))⟩
theorem ZJ {w:World} {p:Nat} {t:TypeId} {u0 u1 u2 u3 u4:Value} (H:Own w p t [u0,u1,u2,u3,u4]) (v0 v1 v2 v3 v4:Value):
  ((w.setCell ⟨p,0,none⟩ v0).cell? ⟨p,0,none⟩=some v0∧((w.setCell ⟨p,0,none⟩ v0).setCell ⟨p,1,none⟩ v1).cell? ⟨p,1,none⟩=some v1∧(((w.setCell ⟨p,0,none⟩ v0).setCell ⟨p,1,none⟩ v1).setCell ⟨p,2,none⟩ v2).cell? ⟨p,2,none⟩=some v2 ∧
   ((((w.setCell ⟨p,0,none⟩ v0).setCell ⟨p,1,none⟩ v1).setCell ⟨p,2,none⟩ v2).setCell ⟨p,3,none⟩ v3).cell? ⟨p,3,none⟩=some v3∧(((((w.setCell ⟨p,0,none⟩ v0).setCell ⟨p,1,none⟩ v1).setCell ⟨p,2,none⟩ v2).setCell ⟨p,3,none⟩ v3).setCell ⟨p,4,none⟩ v4).cell? ⟨p,4,none⟩=some v4) ∧
  Own (((((w.setCell ⟨p,0,none⟩ v0).setCell ⟨p,1,none⟩ v1).setCell ⟨p,2,none⟩ v2).setCell ⟨p,3,none⟩ v3).setCell ⟨p,4,none⟩ v4) p t [v0,v1,v2,v3,v4]:=by
 have h0:Own _ p t [v0,u1,u2,u3,u4]:=H.set (i:=0) (by simp) v0
 have h1:Own _ p t [v0,v1,u2,u3,u4]:=h0.set (i:=1) (by simp) v1
 have h2:Own _ p t [v0,v1,v2,u3,u4]:=h1.set (i:=2) (by simp) v2
 have h3:Own _ p t [v0,v1,v2,v3,u4]:=h2.set (i:=3) (by simp) v3
 have h4:Own _ p t [v0,v1,v2,v3,v4]:=h3.set (i:=4) (by simp) v4
 exact⟨⟨h0.cell rfl,h1.cell rfl,h2.cell rfl,h3.cell rfl,h4.cell rfl⟩,h4⟩
def zero5:List Value:=[.int .i64 0,.string ⟨#[]⟩,.slice none 0 0,.int .i64 0,.slice none 0 0]
theorem XF {w:World} {p:Nat} {t:TypeId} (H:Own w p t zero5) (v0 v1 v2 v3 v4:Value):WC w (((((w.setCell ⟨p,0,none⟩ v0).setCell ⟨p,1,none⟩ v1).setCell ⟨p,2,none⟩ v2).setCell ⟨p,3,none⟩ v3).setCell ⟨p,4,none⟩ v4):=by
 have h0:Own _ p t [v0,.string ⟨#[]⟩,.slice none 0 0,.int .i64 0,.slice none 0 0]:=H.set (i:=0) (by simp[zero5]) v0
 have h1:Own _ p t [v0,v1,.slice none 0 0,.int .i64 0,.slice none 0 0]:=h0.set (i:=1) (by simp) v1
 have h2:Own _ p t [v0,v1,v2,.int .i64 0,.slice none 0 0]:=h1.set (i:=2) (by simp) v2
 have h3:Own _ p t [v0,v1,v2,v3,.slice none 0 0]:=h2.set (i:=3) (by simp) v3
 exact ((((Zv (H.cell (i:=0) rfl) (.inl rfl) v0).trans (Zv (h0.cell (i:=1) rfl) (.inr (.inl rfl)) v1)).trans (Zv (h1.cell (i:=2) rfl) (.inr (.inr rfl)) v2)).trans (Zv (h2.cell (i:=3) rfl) (.inl rfl) v3)).trans (Zv (h3.cell (i:=4) rfl) (.inr (.inr rfl)) v4)
theorem chg_ret5 {P:Nat->Prop} {w0 w:World} {p:Nat} (h:Chg P w0 w) (hp:w0.heap.size<=p) (v0 v1 v2 v3 v4:Value):Chg P w0 (((((w.setCell ⟨p,0,none⟩ v0).setCell ⟨p,1,none⟩ v1).setCell ⟨p,2,none⟩ v2).setCell ⟨p,3,none⟩ v3).setCell ⟨p,4,none⟩ v4):=
 ((((h.fresh hp 0 v0).fresh hp 1 v1).fresh hp 2 v2).fresh hp 3 v3).fresh hp 4 v4
theorem Vz {w:World} {p q:Nat} (v0 v1 v2 v3 v4:Value) (hne:q≠p):(((((w.setCell ⟨p,0,none⟩ v0).setCell ⟨p,1,none⟩ v1).setCell ⟨p,2,none⟩ v2).setCell ⟨p,3,none⟩ v3).setCell ⟨p,4,none⟩ v4).heap[q]?=w.heap[q]?:=by
 rw[Below.heap_setCell _ _ _ _ hne,Below.heap_setCell _ _ _ _ hne,Below.heap_setCell _ _ _ _ hne,Below.heap_setCell _ _ _ _ hne,Below.heap_setCell _ _ _ _ hne]
structure SeT (t:TypeId) (w:World) (p:Nat) (h:Ha):Prop where
 ex:∃ b o c hd,Own w p t [.slice (some ⟨b,o,none⟩) 3 c,.int .i64 h.nx,.int .i64 h.rd]∧Arr w b o 3 hd h.A∧b≠p
 may:Z2 h.A=true
section
variable {w w':World} {p:Nat} {h:Ha} {t:TypeId}
theorem SeT.below (H:SeT t w p h) (g:Below w.heap.size w w'):SeT t w' p h:=by
 obtain⟨b,o,c,hd,h1,h2,h3⟩:=H.ex;exact⟨⟨b,o,c,hd,h1.below' g,h2.below g,h3⟩,H.may⟩
theorem SeT.keepz (H:SeT t w p h) (k:WC w w') (e:w'.heap[p]?=w.heap[p]?):SeT t w' p h:=by
 obtain⟨b,o,c,hd,h1,h2,h3⟩:=H.ex;exact⟨⟨b,o,c,hd,h1.of_block e,h2.keepz H.may k,h3⟩,H.may⟩
theorem SeT.lt (H:SeT t w p h):p<w.heap.size:=by
 obtain⟨b,o,c,hd,h1,_⟩:=H.ex;exact h1.lt
theorem SeT.put (H:SeT t w p h) {b o:Nat} {hd:Nat->Hd} {A:Ar} (hA:Arr w b o 3 hd A) (hm:Z2 A=true) (hb:b≠p) (c:Nat):SeT t (w.setCell ⟨p,0,none⟩ (.slice (some ⟨b,o,none⟩) 3 c)) p ⟨A,h.nx,h.rd⟩:=by
 obtain⟨b0,o0,c0,hd0,h1,_⟩:=H.ex;exact⟨⟨b,o,c,hd,h1.set (i:=0) (by simp) _,hA.box (fun e=>hb e.symm) (h1.cell (i:=0) rfl) _,hb⟩,hm⟩
theorem SeT.nx (H:SeT t w p h) (x:Int):SeT t (w.setCell ⟨p,1,none⟩ (.int .i64 x)) p ⟨h.A,x,h.rd⟩:=by
 obtain⟨b0,o0,c0,hd0,h1,h2,h3⟩:=H.ex;exact⟨⟨b0,o0,c0,hd0,h1.set (i:=1) (by simp) _,h2.number (h1.cell (i:=1) rfl) _,h3⟩,H.may⟩
theorem SeT.rd (H:SeT t w p h) (x:Int):SeT t (w.setCell ⟨p,2,none⟩ (.int .i64 x)) p ⟨h.A,h.nx,x⟩:=by
 obtain⟨b0,o0,c0,hd0,h1,h2,h3⟩:=H.ex;exact⟨⟨b0,o0,c0,hd0,h1.set (i:=2) (by simp) _,h2.number (h1.cell (i:=2) rfl) _,h3⟩,H.may⟩
end
abbrev Se:=SeT 43
def nxE (e:Int):Nx:=⟨anE e,nilS,nilS⟩
theorem nxE_ok (w:World) (e:Int):NxOk w (nxE e):=⟨Zd.nil,rfl,Nat.zero_le _,intsAt_none _ _⟩
theorem nxE_new (B:Nat) (e:Int):YO B (nxE e):=⟨newS_nil _ _,newS_nil _ _⟩
theorem Ug (p:Nat) (h:Ha) (x:Option Addr) (m k:Nat) (e:Int) (A':Ar) (w:World) (H:Se w p h) (hA:e=0->∃ b o hd,x=some ⟨b,o,none⟩∧m=3∧Arr w b o 3 hd A'∧b≠p∧Z2 A'=true):
  Calls Tryz.prog 16 #[.pointer (some ⟨p,0,none⟩),.agg #[.slice x m k],.int .i64 e] w fun en w'=>en=.returned (.agg #[.int .i64 e,.string ⟨#[]⟩,.slice none 0 0,.int .i64 0,.slice none 0 0])∧Se w' p (if e=0 then ⟨A',h.nx,h.rd⟩ else h)∧Chg (fun j=>j=p) w w':=by
 obtain⟨W,hW⟩:∃ W,W=(w.alloc (.cells #[.slice x m k] 26)).alloc (.cells #[.int .i64 0,.string ⟨#[]⟩,.slice none 0 0,.int .i64 0,.slice none 0 0] 34):=⟨_,rfl⟩;have hB:Below w.heap.size w W:=by rw[hW]; go_grown
 have O5:Own W (w.heap.size+1) 34 zero5:=by
  rw[hW]
  have:=Own.made (w.alloc (.cells #[.slice x m k] 26)) 34 zero5
  rw[show (w.alloc (.cells #[.slice x m k] 26)).heap.size=w.heap.size+1 by simp] at this
  exact this
 have t0:W.cell? ⟨w.heap.size,0,none⟩=some (.slice x m k):=by rw[hW]; simp[go_sem]
 have HW:=H.below hB;obtain⟨b0,o0,cc,hd0,h1,h2,h3⟩:=HW.ex;have d0:=h1.cell (i:=0) rfl;have df:=h1.free 0;have hlt:=H.lt
 by_cases h0:e=0
 ·subst h0
  obtain⟨b,o,hd,rfl,rfl,HA,hb,hm⟩:=hA rfl;have S1:=HW.put (HA.below hB) hm hb k;have O6:=O5.other (p:=⟨p,0,none⟩) (show w.heap.size+1≠p by omega) (.slice (some ⟨b,o,none⟩) 3 k)
  have C1:Chg (fun j=>j=p) w (W.setCell ⟨p,0,none⟩ (.slice (some ⟨b,o,none⟩) 3 k)):=(chg_below (fun j=>j=p) hB).set (p:=p) rfl 0 _
  have HL:=hid hlt;clear h1 h2 h3 HW O5 HA H hB hA hm hb hlt;rw[if_pos rfl];go_enter Tryz.func16,Tryz.ntmps16
  go_upto_region 1 with fail
  rw[<- hW];clear hW;have HF:=hid (And.intro S1 (And.intro O6 C1));clear S1 O6 C1;go_upto_region 3 with fail
  clear t0 d0 df;generalize W.setCell ⟨p,0,none⟩ (.slice (some ⟨b,o,none⟩) 3 k)=V at HF ⊢;have O6:=HF.out.2.1;obtain⟨pr,hpr⟩:∃ pr,w.heap.size+1=pr:=⟨_,rfl⟩;have HR:=hid hpr;rw[hpr] at O6 ⊢;clear hpr;have v0:=O6.cell (i:=0) rfl;have v1:=O6.cell (i:=1) rfl;have v2:=O6.cell (i:=2) rfl;have v3:=O6.cell (i:=3) rfl;have v4:=O6.cell (i:=4) rfl;have x0:=O6.free 0;have x1:=O6.free 1;have x2:=O6.free 2;have x3:=O6.free 3;have x4:=O6.free 4;have HY:=ZJ O6 (.int .i64 0) (.string ⟨#[]⟩) (.slice none 0 0) (.int .i64 0) (.slice none 0 0);obtain⟨y0,y1,y2,y3,y4⟩:=HY.1;have K:=hid (And.intro (HF.out.1.keepz (XF O6 (.int .i64 0) (.string ⟨#[]⟩) (.slice none 0 0) (.int .i64 0) (.slice none 0 0)) (Vz (p:=pr) (q:=p) _ _ _ _ _ (by have:=HR.out; have:=HL.out; omega))) (chg_ret5 (p:=pr) HF.out.2.2 (by have:=HR.out; omega) (.int .i64 0) (.string ⟨#[]⟩) (.slice none 0 0) (.int .i64 0) (.slice none 0 0)))
  clear O6 HY HF;go_wp2
  refine bodyPost_ret (v:=.agg #[.int .i64 0,.string ⟨#[]⟩,.slice none 0 0,.int .i64 0,.slice none 0 0]) (by simp[results,Tryz.results16,go_sem,y0,y1,y2,y3,y4]) rfl ?_
  exact⟨rfl,K.out⟩
 ·have e':(e==0)=false:=beq_eq_false_iff_ne.2 h0
  have C1:Chg (fun j=>j=p) w W:=chg_below (fun j=>j=p) hB
  have HL:=hid hlt;rw[if_neg h0];clear h1 h2 h3 H hB hA hlt h0;go_enter Tryz.func16,Tryz.ntmps16
  go_upto_region 1 with fail
  rw[<- hW];clear hW;have HF:=hid (And.intro HW (And.intro O5 C1));clear HW O5 C1;go_upto_region 3 with fail
  clear t0 d0 df e';have O6:=HF.out.2.1;obtain⟨pr,hpr⟩:∃ pr,w.heap.size+1=pr:=⟨_,rfl⟩;have HR:=hid hpr;rw[hpr] at O6 ⊢;clear hpr;have v0:=O6.cell (i:=0) rfl;have v1:=O6.cell (i:=1) rfl;have v2:=O6.cell (i:=2) rfl;have v3:=O6.cell (i:=3) rfl;have v4:=O6.cell (i:=4) rfl;have x0:=O6.free 0;have x1:=O6.free 1;have x2:=O6.free 2;have x3:=O6.free 3;have x4:=O6.free 4;have HY:=ZJ O6 (.int .i64 e) (.string ⟨#[]⟩) (.slice none 0 0) (.int .i64 0) (.slice none 0 0);obtain⟨y0,y1,y2,y3,y4⟩:=HY.1;have K:=hid (And.intro (HF.out.1.keepz (XF O6 (.int .i64 e) (.string ⟨#[]⟩) (.slice none 0 0) (.int .i64 0) (.slice none 0 0)) (Vz (p:=pr) (q:=p) _ _ _ _ _ (by have:=HR.out; have:=HL.out; omega))) (chg_ret5 (p:=pr) HF.out.2.2 (by have:=HR.out; omega) (.int .i64 e) (.string ⟨#[]⟩) (.slice none 0 0) (.int .i64 0) (.slice none 0 0)))
  clear O6 HY HF;go_wp2
  refine bodyPost_ret (v:=.agg #[.int .i64 e,.string ⟨#[]⟩,.slice none 0 0,.int .i64 0,.slice none 0 0]) (by simp[results,Tryz.results16,go_sem,y0,y1,y2,y3,y4]) rfl ?_
  exact⟨rfl,K.out⟩
def Wm (w:World) (p:Nat) (r:Ha × An) (e:Ending) (w':World):Prop:=∃ q:Nx,e=.returned (nxA q)∧q.r=r.2∧NxOk w' q∧YO w.heap.size q∧Se w' p r.1∧Chg (fun j=>j=p) w w'
theorem Z46 {w W:World} {p pr:Nat} {h':Ha} (O:Own W pr 34 zero5) (hs:Se W p h') (hp:p<w.heap.size) (hpr:w.heap.size<=pr) (hc:Chg (fun j=>j=p) w W) (x:Nx) (hx:NxOk W x) (hn:YO (pr+1) x):
  Wm w p (h',x.r) (.returned (nxA x)) (((((W.setCell ⟨pr,0,none⟩ (.int .i64 x.r.code)).setCell ⟨pr,1,none⟩ (.string (str x.r.data))).setCell ⟨pr,2,none⟩ (.slice x.f.a x.f.n x.f.c)).setCell ⟨pr,3,none⟩ (.int .i64 x.r.count)).setCell ⟨pr,4,none⟩ (.slice x.g.a x.g.n x.g.c)):=by
 have k:=XF O (.int .i64 x.r.code) (.string (str x.r.data)) (.slice x.f.a x.f.n x.f.c) (.int .i64 x.r.count) (.slice x.g.a x.g.n x.g.c);have c1:=((((((Chg.refl (fun j=>j=pr) W).set (p:=pr) rfl 0 (.int .i64 x.r.code)).set (p:=pr) rfl 1 (.string (str x.r.data))).set (p:=pr) rfl 2 (.slice x.f.a x.f.n x.f.c)).set (p:=pr) rfl 3 (.int .i64 x.r.count)).set (p:=pr) rfl 4 (.slice x.g.a x.g.n x.g.c))
 refine⟨x,rfl,rfl,?_,⟨hn.1.less (by omega),hn.2.less (by omega)⟩,hs.keepz k (c1.block p hs.lt (by omega)),chg_ret5 hc hpr _ _ _ _ _⟩
 exact hx.grown (row:=some pr) (hn.off (fun g e=>by cases e; omega)) ⟨c1.os,c1.tape,c1.output,c1.size,fun k hk hne=>c1.block k hk (fun e=>hne (by rw[e]))⟩
end Go.Proofs.YtdnacpbgodooaaaGreatDoor
